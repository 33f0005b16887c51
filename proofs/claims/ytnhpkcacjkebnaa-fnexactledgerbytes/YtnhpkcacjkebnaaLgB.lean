/-
  The program's bytes of a document. The condition: it is right.
-/
import Derived.Test.YtnhpkcacjkebnaaDoR
import Derived.Test.YtnhpkcacjkebnaaPutTxt
import Derived.Test.YtnhpkcacjkebnaaTxG
import Derived.Deep.RegionHeld3
namespace Go.Proofs.Ytnhpkcacjkebnaa
open Go.ChangeShapes Go.WideShapes Go.ChangeAt Go.RowKit
set_option linter.unusedVariables false
namespace LedR
open LinR DocR
open RowG (Rws MadeG hid_intro getD_mem)
open NumR (numB)
open JoinR (joinB jl)
open CatR (Blk)
/-- A text's bytes. -/
def txB (t : ByteArray) : ByteArray := numB t.size ++ t
/-- The parts of a document, with so many lines; its bytes. -/
def lnP (y : N) : List ByteArray := [txB y.i, numB y.n]
def bP (x : D) (k : Nat) : List ByteArray := [txB x.a, numB x.mo, numB x.sq, numB x.ls.length] ++ (x.ls.take k).flatMap lnP
def dBy (x : D) : ByteArray := joinB (bP x x.ls.length)
theorem doc_bd {x : D} (h : dB x = true) : x.a.size ≤ 20 ∧ (0 ≤ x.mo ∧ x.mo ≤ 2760) ∧ (0 ≤ x.sq ∧ x.sq ≤ 1000000) ∧ x.ls.length ≤ 6 ∧ ∀ y ∈ x.ls, y.i.size ≤ 20 ∧ -1000000000000000 ≤ y.n ∧ y.n ≤ 1000000000000000 := by
  unfold dB at h
  simp only [Bool.and_eq_true, decide_eq_true_eq] at h
  obtain ⟨n1, n2, n3, n4, _⟩ := h
  have nl : ∀ s : ByteArray, NameR.nameB s = true → s.size ≤ 20 := fun s hs => by
    rcases Nat.lt_or_ge 20 s.size with q | q
    · rw [NameR.name_size (.inr q)] at hs; cases hs
    · exact q
  obtain ⟨l6, hok⟩ := sB_iff.1 n4
  refine ⟨nl _ n1, n2, n3, l6, fun y hy => ?_⟩
  obtain ⟨k, hk, rfl⟩ := List.mem_iff_getElem.1 hy
  have h2 := (hok k hk).2
  have e : x.ls.getD k N.zero = x.ls[k] := by simp [List.getD, hk]
  rw [e] at h2
  unfold lOk nOk at h2
  simp only [Bool.and_eq_true, decide_eq_true_eq] at h2
  exact ⟨nl _ h2.1, h2.2.1.1, h2.2.1.2⟩
theorem num_le {n : Int} (h0 : -1000000000000000 ≤ n) (h1 : n ≤ 1000000000000000) : (numB n).size ≤ 40 := by
  have := NumR.numB_size (n := n) (by omega); omega
theorem txt_le {t : ByteArray} (h : t.size ≤ 20) : (txB t).size ≤ 40 := by
  unfold txB
  rw [ByteArray.size_append]
  have := NumR.numB_size (n := (t.size : Int)) (by omega); omega
theorem lnP_len (l : List N) : (l.flatMap lnP).length = 2 * l.length := by
  induction l with
  | nil => rfl
  | cons y l ih => simp only [List.flatMap_cons, List.length_append, ih, lnP, List.length_cons, List.length_nil]; omega
theorem bP_len (x : D) (k : Nat) (h : k ≤ x.ls.length) : (bP x k).length = 4 + 2 * k := by
  unfold bP
  simp only [List.length_append, List.length_cons, List.length_nil, lnP_len, List.length_take]
  omega
theorem bP_more (x : D) (k : Nat) (h : k < x.ls.length) : bP x (k + 1) = bP x k ++ [txB (x.ls.getD k N.zero).i, numB (x.ls.getD k N.zero).n] := by
  unfold bP; rw [take_flat x.ls lnP N.zero k h, ← List.append_assoc]; rfl
theorem bP_le {x : D} (h : dB x = true) (k : Nat) (hk : k ≤ x.ls.length) : (joinB (bP x k)).size ≤ 1000 := by
  obtain ⟨b1, b2, b3, b4, b5⟩ := doc_bd h
  have h1 : ∀ y ∈ bP x k, y.size ≤ 40 := by
    intro y hy
    unfold bP at hy
    simp only [List.mem_append, List.mem_cons, List.not_mem_nil, or_false, List.mem_flatMap, lnP] at hy
    rcases hy with (rfl | rfl | rfl | rfl) | ⟨u, hu, rfl | rfl⟩
    · exact txt_le b1
    · exact num_le (by omega) (by omega)
    · exact num_le (by omega) (by omega)
    · exact num_le (by omega) (by omega)
    · exact txt_le (b5 u (List.mem_of_mem_take hu)).1
    · have := b5 u (List.mem_of_mem_take hu); exact num_le (by omega) (by omega)
  have h2 := join_size_le 40 _ h1
  have h3 := bP_len x k hk
  omega
/-- The document's block, as the regions read it. -/
def DBy (w : World) (a : ByteArray) (mo sq : Int) (la : Option Addr) (ll lc : Nat) (W : World) : Prop := Below w.heap.size w W ∧ w.heap.size < W.heap.size ∧ W.cell? ⟨w.heap.size, 0, none⟩ = some (.string a) ∧ W.cell? ⟨w.heap.size, 1, none⟩ = some (.int .i64 mo) ∧ W.cell? ⟨w.heap.size, 2, none⟩ = some (.int .i64 sq) ∧ W.cell? ⟨w.heap.size, 3, none⟩ = some (.slice la ll lc)
theorem DBy.below {w : World} {a : ByteArray} {mo sq : Int} {la : Option Addr} {ll lc : Nat} {W W' : World} (h : DBy w a mo sq la ll lc W) (hb : Below W.heap.size W W') : DBy w a mo sq la ll lc W' := by
  obtain ⟨h0, h1, c0, c1, c2, c3⟩ := h
  have c := fun o => hb.cell (p := ⟨w.heap.size, o, none⟩) h1
  have := hb.size
  exact ⟨h0.trans (hb.mono h0.size), by omega, (c 0).trans c0, (c 1).trans c1, (c 2).trans c2, (c 3).trans c3⟩
theorem heap_alloc_new (w : World) (o : Obj) : (w.alloc o).heap[w.heap.size]? = some o := by show (w.heap.push o)[w.heap.size]? = some o; simp
set_option maxRecDepth 100000 in
set_option maxHeartbeats 8000000 in
theorem idoc (x : D) (la : Option Addr) (lc : Nat) (w : World) (hx : dB x = true) (hL : Lis la x.ls w) :
    Calls Try.prog 45 #[.agg #[.string x.a, .int .i64 x.mo, .int .i64 x.sq, .slice la x.ls.length lc]] w fun e w' => e = .returned (.string (dBy x)) ∧ Below w.heap.size w w' := by
  obtain ⟨i0, hi, hz0, hz1, hz2⟩ := info_parts infoS
  obtain ⟨b1, b2, b3, b4, b5⟩ := doc_bd hx
  have HQM := hid_intro (fun k (h : k < x.ls.length) => bP_more x k h)
  have HQL := hid_intro (fun k (h : k ≤ x.ls.length) => bP_len x k h)
  have HQS := hid_intro (bP_le hx x.ls.length (Nat.le_refl _))
  have HRR : Hid (dBy x = joinB (bP x x.ls.length)) := rfl
  have HQ0 : Hid (bP x 0 = [txB x.a, numB x.mo, numB x.sq, numB x.ls.length]) := hid_intro (by simp [bP])
  generalize bP x = Q at *
  generalize dBy x = R at *
  obtain ⟨a, mo, sq, ls⟩ := x
  dsimp only at *
  have HL := hid_intro hL
  have S9 := hid_intro b5
  have P1 := hid_intro (fun w => PutTextL.impl_text a w (by omega))
  have P2 := hid_intro (fun w => NumR.impl_put mo w (by omega))
  have P3 := hid_intro (fun w => NumR.impl_put sq w (by omega))
  obtain ⟨ll, hll⟩ : ∃ ll, ll = ls.length := ⟨_, rfl⟩
  rw [← hll] at b4 HQM HQL HQS HRR HQ0 ⊢
  have HLL := hid_intro hll
  have P4 := hid_intro (fun w => NumR.impl_put ((ll : Nat) : Int) w (by omega))
  have HQ0 : Hid (Q 0 = [numB (a.size : Int) ++ a, numB mo, numB sq, numB (ll : Int)]) := HQ0
  clear hL b5 hll hx
  generalize numB (a.size : Int) ++ a = T1 at *
  generalize numB mo = T2 at *
  generalize numB sq = T3 at *
  generalize numB (ll : Int) = T4 at *
  clear b1 b2 b3
  have HS0 : Hid (DBy w a mo sq la ll lc (w.alloc (.cells #[.string a, .int .i64 mo, .int .i64 sq, .slice la ll lc] 58)).drew) := hid_intro ⟨((Below.refl _ _).alloc (Nat.le_refl _) _).drew, by simp, by simp [go_sem], by simp [go_sem], by simp [go_sem], by simp [go_sem]⟩
  go_enter Try.func45, Try.ntmps45
  go_wp2_with fail
  refine wp_region_held_drew (S := (fun W => Below w.heap.size w W ∧ w.heap.size < W.heap.size ∧ W.cell? ⟨w.heap.size, 0, none⟩ = some (.string a) ∧ W.cell? ⟨w.heap.size, 1, none⟩ = some (.int .i64 mo) ∧ W.cell? ⟨w.heap.size, 2, none⟩ = some (.int .i64 sq) ∧ W.cell? ⟨w.heap.size, 3, none⟩ = some (.slice la ll lc))) (by kernel_rfl) HS0.out (fun hHeld => ?_)
  refine wpAnyH_take (i := 0) (oi := { dst := some 6, op := Op.fieldAddr 58 (Operand.tmp 1) 0, type := 0, pos := "l09_ledger.go:161", after := #[], guard := none }) (v := ?_) rfl (by kernel_rfl) (by kernel_rfl) (by kernel_rfl) (fun _ _ _ h => h) (Or.inl ⟨by rfl, ?_⟩) (by assumption) ?_
  rotate_left
  · (intro w hSw; (try dsimp only at hSw); go_simp) <;> with_reducible rfl
  try simp only [Act.put, List.setIfInBounds_toArray, List.set_cons_zero, List.set_cons_succ]
  refine wpAnyH_take (i := 1) (oi := { dst := some 7, op := Op.load 9 (Operand.tmp 6), type := 9, pos := "l09_ledger.go:161", after := #[{ on := 0, ground := Ground.data }], guard := none }) (v := ?_) rfl (by kernel_rfl) (by kernel_rfl) (by kernel_rfl) (fun _ _ _ h => h) (Or.inl ⟨by rfl, ?_⟩) (by assumption) ?_
  rotate_left
  · (intro w hSw; (try dsimp only at hSw); go_simp) <;> with_reducible rfl
  try simp only [Act.put, List.setIfInBounds_toArray, List.set_cons_zero, List.set_cons_succ]
  refine wpAnyH_take (i := 3) (oi := { dst := some 9, op := Op.fieldAddr 58 (Operand.tmp 1) 1, type := 0, pos := "l09_ledger.go:161", after := #[], guard := none }) (v := ?_) rfl (by kernel_rfl) (by kernel_rfl) (by kernel_rfl) (fun _ _ _ h => h) (Or.inl ⟨by rfl, ?_⟩) (by assumption) ?_
  rotate_left
  · (intro w hSw; (try dsimp only at hSw); go_simp) <;> with_reducible rfl
  try simp only [Act.put, List.setIfInBounds_toArray, List.set_cons_zero, List.set_cons_succ]
  refine wpAnyH_take (i := 4) (oi := { dst := some 10, op := Op.load 2 (Operand.tmp 9), type := 2, pos := "l09_ledger.go:161", after := #[{ on := 3, ground := Ground.data }], guard := none }) (v := ?_) rfl (by kernel_rfl) (by kernel_rfl) (by kernel_rfl) (fun _ _ _ h => h) (Or.inl ⟨by rfl, ?_⟩) (by assumption) ?_
  rotate_left
  · (intro w hSw; (try dsimp only at hSw); go_simp) <;> with_reducible rfl
  try simp only [Act.put, List.setIfInBounds_toArray, List.set_cons_zero, List.set_cons_succ]
  refine wpAnyH_take (i := 6) (oi := { dst := some 12, op := Op.fieldAddr 58 (Operand.tmp 1) 2, type := 0, pos := "l09_ledger.go:161", after := #[], guard := none }) (v := ?_) rfl (by kernel_rfl) (by kernel_rfl) (by kernel_rfl) (fun _ _ _ h => h) (Or.inl ⟨by rfl, ?_⟩) (by assumption) ?_
  rotate_left
  · (intro w hSw; (try dsimp only at hSw); go_simp) <;> with_reducible rfl
  try simp only [Act.put, List.setIfInBounds_toArray, List.set_cons_zero, List.set_cons_succ]
  refine wpAnyH_take (i := 7) (oi := { dst := some 13, op := Op.load 2 (Operand.tmp 12), type := 2, pos := "l09_ledger.go:161", after := #[{ on := 6, ground := Ground.data }], guard := none }) (v := ?_) rfl (by kernel_rfl) (by kernel_rfl) (by kernel_rfl) (fun _ _ _ h => h) (Or.inl ⟨by rfl, ?_⟩) (by assumption) ?_
  rotate_left
  · (intro w hSw; (try dsimp only at hSw); go_simp) <;> with_reducible rfl
  try simp only [Act.put, List.setIfInBounds_toArray, List.set_cons_zero, List.set_cons_succ]
  refine wpAnyH_take (i := 9) (oi := { dst := some 15, op := Op.fieldAddr 58 (Operand.tmp 1) 3, type := 0, pos := "l09_ledger.go:161", after := #[], guard := none }) (v := ?_) rfl (by kernel_rfl) (by kernel_rfl) (by kernel_rfl) (fun _ _ _ h => h) (Or.inl ⟨by rfl, ?_⟩) (by assumption) ?_
  rotate_left
  · (intro w hSw; (try dsimp only at hSw); go_simp) <;> with_reducible rfl
  try simp only [Act.put, List.setIfInBounds_toArray, List.set_cons_zero, List.set_cons_succ]
  refine wpAnyH_take (i := 10) (oi := { dst := some 16, op := Op.load 24 (Operand.tmp 15), type := 24, pos := "l09_ledger.go:161", after := #[{ on := 9, ground := Ground.data }], guard := none }) (v := ?_) rfl (by kernel_rfl) (by kernel_rfl) (by kernel_rfl) (fun _ _ _ h => h) (Or.inl ⟨by rfl, ?_⟩) (by assumption) ?_
  rotate_left
  · (intro w hSw; (try dsimp only at hSw); go_simp) <;> with_reducible rfl
  try simp only [Act.put, List.setIfInBounds_toArray, List.set_cons_zero, List.set_cons_succ]
  refine wpAnyH_take (i := 11) (oi := { dst := some 17, op := Op.call { callee := Callee.builtin Builtin.len, args := #[Operand.tmp 16], argTypes := #[24] }, type := 3, pos := "l09_ledger.go:161", after := #[{ on := 10, ground := Ground.data }], guard := none }) (v := ?_) rfl (by kernel_rfl) (by kernel_rfl) (by kernel_rfl) (fun _ _ _ h => h) (Or.inl ⟨by rfl, ?_⟩) (by assumption) ?_
  rotate_left
  · (intro w hSw; (try dsimp only at hSw); go_simp) <;> with_reducible rfl
  try simp only [Act.put, List.setIfInBounds_toArray, List.set_cons_zero, List.set_cons_succ]
  refine wpAnyH_ready (rs := [2]) (by kernel_rfl) (by simp) ?_
  refine AllReadyH.cons (o := { dst := some 8, op := Op.call { callee := Callee.value (Operand.func 62), args := #[Operand.tmp 7], argTypes := #[9] }, type := 9, pos := "l09_ledger.go:161", after := #[{ on := 1, ground := Ground.data }], guard := none }) rfl (fun K hK => ?_) AllReadyH.nil
  go_simp
  go_at_call 62
  refine (P1.out _).mono ?_
  rintro e q1 ⟨rfl, hq1⟩
  try go_wp2_with fail
  have hk1 := DBy.below (w := w) (a := a) (mo := mo) (sq := sq) (la := la) (ll := ll) (lc := lc) HS0.out hq1
  refine hK.out _ _ hk1 (fun _ => ?_)
  clear hK K
  try simp only [Act.put, List.setIfInBounds_toArray, List.set_cons_zero, List.set_cons_succ]
  refine wpAnyH_ready (rs := [5]) (by kernel_rfl) (by simp) ?_
  refine AllReadyH.cons (o := { dst := some 11, op := Op.call { callee := Callee.value (Operand.func 44), args := #[Operand.tmp 10], argTypes := #[2] }, type := 9, pos := "l09_ledger.go:161", after := #[{ on := 4, ground := Ground.data }, { on := 2, ground := Ground.chain }], guard := none }) rfl (fun K hK => ?_) AllReadyH.nil
  go_simp
  go_at_call 44
  refine (P2.out _).mono ?_
  rintro e q2 ⟨rfl, hq2⟩
  try go_wp2_with fail
  have hk2 := DBy.below (w := w) (a := a) (mo := mo) (sq := sq) (la := la) (ll := ll) (lc := lc) hk1 hq2
  refine hK.out _ _ hk2 (fun _ => ?_)
  clear hK K
  try simp only [Act.put, List.setIfInBounds_toArray, List.set_cons_zero, List.set_cons_succ]
  refine wpAnyH_ready (rs := [8]) (by kernel_rfl) (by simp) ?_
  refine AllReadyH.cons (o := { dst := some 14, op := Op.call { callee := Callee.value (Operand.func 44), args := #[Operand.tmp 13], argTypes := #[2] }, type := 9, pos := "l09_ledger.go:161", after := #[{ on := 7, ground := Ground.data }, { on := 5, ground := Ground.chain }], guard := none }) rfl (fun K hK => ?_) AllReadyH.nil
  go_simp
  go_at_call 44
  refine (P3.out _).mono ?_
  rintro e q3 ⟨rfl, hq3⟩
  try go_wp2_with fail
  have hk3 := DBy.below (w := w) (a := a) (mo := mo) (sq := sq) (la := la) (ll := ll) (lc := lc) hk2 hq3
  refine hK.out _ _ hk3 (fun _ => ?_)
  clear hK K
  try simp only [Act.put, List.setIfInBounds_toArray, List.set_cons_zero, List.set_cons_succ]
  refine wpAnyH_ready (rs := [12]) (by kernel_rfl) (by simp) ?_
  refine AllReadyH.cons (o := { dst := some 18, op := Op.call { callee := Callee.value (Operand.func 44), args := #[Operand.tmp 17], argTypes := #[2] }, type := 9, pos := "l09_ledger.go:161", after := #[{ on := 11, ground := Ground.data }, { on := 8, ground := Ground.chain }], guard := none }) rfl (fun K hK => ?_) AllReadyH.nil
  go_simp
  go_at_call 44
  refine (P4.out _).mono ?_
  rintro e q4 ⟨rfl, hq4⟩
  try go_wp2_with fail
  have hk4 := DBy.below (w := w) (a := a) (mo := mo) (sq := sq) (la := la) (ll := ll) (lc := lc) hk3 hq4
  refine hK.out _ _ hk4 (fun _ => ?_)
  clear hK K
  try simp only [Act.put, List.setIfInBounds_toArray, List.set_cons_zero, List.set_cons_succ]
  refine wpAnyH_ready (rs := [13]) (by kernel_rfl) (by simp) ?_
  refine AllReadyH.cons (o := { dst := some 19, op := Op.buildSlice 76 4 #[(0, Operand.tmp 8), (1, Operand.tmp 11), (2, Operand.tmp 14), (3, Operand.tmp 18)], type := 76, pos := "l09_ledger.go:161", after := #[{ on := 2, ground := Ground.data }, { on := 5, ground := Ground.data }, { on := 8, ground := Ground.data }, { on := 12, ground := Ground.data }], guard := none }) rfl (fun K hK => ?_) AllReadyH.nil
  go_simp
  try go_wp2_with fail
  have hk7 := DBy.below (w := w) (a := a) (mo := mo) (sq := sq) (la := la) (ll := ll) (lc := lc) hk4 ((Below.refl q4.heap.size q4).alloc (Nat.le_refl _) (Obj.cells #[Value.string T1, Value.string T2, Value.string T3, Value.string T4] 9))
  refine hK.out _ _ hk7 (fun _ => ?_)
  clear hK K
  try simp only [Act.put, List.setIfInBounds_toArray, List.set_cons_zero, List.set_cons_succ]
  refine wpAnyH_take (i := 14) (oi := { dst := some 3, op := Op.assign (Operand.tmp 19), type := 76, pos := "l09_ledger.go:161", after := #[{ on := 13, ground := Ground.data }, { on := 12, ground := Ground.chain }, { on := 0, ground := Ground.phase }, { on := 1, ground := Ground.phase }, { on := 2, ground := Ground.phase }, { on := 3, ground := Ground.phase }, { on := 4, ground := Ground.phase }, { on := 5, ground := Ground.phase }, { on := 6, ground := Ground.phase }, { on := 7, ground := Ground.phase }, { on := 8, ground := Ground.phase }, { on := 9, ground := Ground.phase }, { on := 10, ground := Ground.phase }, { on := 11, ground := Ground.phase }, { on := 12, ground := Ground.phase }, { on := 13, ground := Ground.phase }], guard := none }) (v := ?_) rfl (by kernel_rfl) (by kernel_rfl) (by kernel_rfl) (fun _ _ _ h => h) (Or.inl ⟨by rfl, ?_⟩) (by assumption) ?_
  rotate_left
  · (intro w hSw; (try dsimp only at hSw); go_simp) <;> with_reducible rfl
  try simp only [Act.put, List.setIfInBounds_toArray, List.set_cons_zero, List.set_cons_succ]
  refine wpAnyH_done (by kernel_rfl) ?_ _
  have HO0 : Hid ((q4.alloc (Obj.cells #[Value.string T1, Value.string T2, Value.string T3, Value.string T4] 9)).ownsRow (w.heap.size + 1) 9 1 (.slice (some ⟨q4.heap.size, 0, none⟩) 4 4) (4 + 2 * 0) ((Q 0).map Value.string)) := hid_intro (by
    have := hk4.2.1
    rw [HQ0.out]
    exact ⟨by simp, .inr ⟨q4.heap.size, 4, #[.string T1, .string T2, .string T3, .string T4], rfl, by omega, heap_alloc_new q4 _, by omega, by unfold maxLen; omega, by simp, by simp⟩⟩)
  have HB7 := hid_intro hk7.1
  have x3 := hk7.2.2.2.2.2
  have xl := hk7.2.1
  clear hk1 hk2 hk3 hk4 hk7 hq1 hq2 hq3 hq4 HS0
  obtain ⟨W7, hW7⟩ : ∃ W7, W7 = q4.alloc (Obj.cells #[Value.string T1, Value.string T2, Value.string T3, Value.string T4] 9) := ⟨_, rfl⟩
  rw [← hW7] at HO0 HB7 x3 xl ⊢
  clear hW7
  have HV0 : Hid ((.slice (some ⟨q4.heap.size, 0, none⟩) 4 4 : Value) ≠ .slice none 0 0) := hid_intro (by simp)
  go_wp2_with fail
  go_loopw [3, 23] (fun v z wx => ∃ (i : Nat), i ≤ ll ∧ z = .int .i64 i ∧ Hid (wx.ownsRow (w.heap.size + 1) 9 1 v (4 + 2 * i) ((Q i).map Value.string)) ∧ Hid (v ≠ .slice none 0 0) ∧ Hid (Below w.heap.size w wx)) (fun v z _ => ll - (intOf z).toNat)
  case atStart => exact ⟨0, by omega, rfl, HO0, HV0, HB7⟩
  case round =>
    clear HO0 HV0 HB7 xl x3
    obtain ⟨i, hi2, rfl, HO, HV, HB⟩ := hrel
    by_cases hlt3 : i < ll
    · have hlt2 : (i : Int) < (ll : Int) := by omega
      have hil : i < ls.length := by have := HLL.out; omega
      obtain ⟨b, off, rfl, hbl, c0, c1⟩ := (HL.out.below HB.out).at i hil
      have u1 := S9.out _ (getD_mem (z := N.zero) ls i hil)
      have HC1 := hid_intro (HQM.out i hlt3)
      generalize ls.getD i N.zero = Y at *
      obtain ⟨U, P⟩ := Y
      dsimp only at c0 c1 u1 HC1
      obtain ⟨u2, u3, u4⟩ := u1
      have Q1 := hid_intro (fun w => PutTextL.impl_text U w (by omega))
      have Q2 := hid_intro (fun w => NumR.impl_put P w (by omega))
      have HC1 : Hid (Q (i + 1) = Q i ++ [numB (U.size : Int) ++ U, numB P]) := HC1
      generalize numB (U.size : Int) ++ U = X1 at *
      generalize numB P = X2 at *
      clear u2 u3 u4
      have HAl : Hid (BM2 w wr.heap.size (.string U) (.int .i64 P) (wr.alloc (.cells #[.string U, .int .i64 P] 45))) := hid_intro ⟨HB.out.alloc HB.out.size _, by simp, by simp [go_sem], by simp [go_sem]⟩
      have HAd := hid_intro HAl.out.drew
      have HOA := hid_intro (own_drew (HO.out.alloc (.cells #[.string U, .int .i64 P] 45)))
      have sz1 : 4 + 2 * i + 2 ≤ maxLen := by unfold maxLen; omega
      have sz2 : (4 + 2 * i + 2) * 16 ≤ 140737488355328 := by omega
      have sz3 : 0 < 1 := by omega
      go_wp2_with fail
      go_region_held3 (fun W => Below w.heap.size w W ∧ wr.heap.size < W.heap.size ∧ W.cell? ⟨wr.heap.size, 0, none⟩ = some (.string U) ∧ W.cell? ⟨wr.heap.size, 1, none⟩ = some (.int .i64 P))
        (first | assumption | (exact HAl.out) | (exact HAd.out) | (exact BM2.below (w := w) (B := wr.heap.size) (by assumption) hb1) | (exact BM2.below (w := w) (B := wr.heap.size) (by assumption) hb2) | (exact BM2.below (w := w) (B := wr.heap.size) (by assumption) ((Below.refl _ _).alloc (Nat.le_refl _) _)) | (exact BM2.grown (w := w) (B := wr.heap.size) (by assumption) hgrow HO.out rfl (Nat.le_succ _)))
        (first | (go_at_call 62; refine (Q1.out _).mono ?_; rintro e w1 ⟨rfl, hb1⟩; have HO1 := hid_intro (own_below HOA.out hb1)) | (go_at_call 44; refine (Q2.out _).mono ?_; rintro e w2 ⟨rfl, hb2⟩; have HO2 := hid_intro (own_below HO1.out hb2)) | (refine step_append_own rfl _ _ 76 rfl (w.heap.size + 1) 9 i0 (.string ⟨#[]⟩) 1 16 Try.underlying76 hi hz0 hz1 hz2 rfl sz3 _ _ _ rfl (HO2.out.alloc _) ⟨w2.heap.size, 0, none⟩ 2 2 [.string X1, .string X2] rfl rfl (two_cells _ _ _ _) (two_one _ _) sz1 sz2 (own_base (HO2.out.alloc _) HV.out) ?_; intro v' w4 hown hgrow hne))
      rename_i hS
      have HS4 := hid_intro hS.1
      have HO4 : Hid (w4.ownsRow (w.heap.size + 1) 9 1 v' (4 + 2 * (i + 1)) ((Q (i + 1)).map Value.string)) := hid_intro (by
        rw [HC1.out, List.map_append, show 4 + 2 * (i + 1) = 4 + 2 * i + 2 by omega]
        exact hown)
      have HV4 : Hid (v' ≠ .slice none 0 0) := hid_intro (by first | exact hne | exact fun h => HV.out (hne.1 h).1)
      clear hown hgrow hne hS
      go_wp2_with fail
      go_roundw
      case rel => exact ⟨i + 1, by omega, by go_num, HO4, HV4, HS4⟩
      case measure => simp [intOf]; omega
    · obtain rfl : i = ll := by omega
      obtain ⟨q, cap', rfl, hg, hn, hcap, hcell⟩ := own_texts HO.out HV.out
      have hj2 := JoinR.join_len (Q i) q cap' _ (by omega) (by omega) hg hcell (by rw [jl_size]; have := HQS.out; omega)
      rw [hn] at hj2
      have HJ2 := hid_intro hj2
      clear hj2 hcell
      go_wp2_with fail
      refine HJ2.out.mono ?_
      rintro e w6 ⟨rfl, hb⟩
      have HB6 := hid_intro (HB.out.trans (hb.mono HB.out.size))
      clear hb
      go_wp2_with fail
      go_ret
      exact ⟨ret_str HRR.out.symm, HB6.out⟩
end LedR
end Go.Proofs.Ytnhpkcacjkebnaa
