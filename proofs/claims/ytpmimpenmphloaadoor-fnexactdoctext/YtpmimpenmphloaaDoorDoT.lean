/-
  A document's text, on both sides. The conditions: texts of at most 1048576 bytes, at most 1048576 lines; the library's table stands in its variable.
-/
import Derived.Test.YtpmimpenmphloaaDoorDoR
import Derived.Test.YtpmimpenmphloaaDoorMonTx
import Derived.Test.YtpmimpenmphloaaDoorTxG
namespace Go.Proofs.YtpmimpenmphloaaDoor
open Go.ChangeShapes Go.WideShapes Go.ChangeAt Go.RowKit
set_option linter.unusedVariables false
namespace DocR
open LinR RowG
open JoinR (joinB jl)
open CatR (Blk Blk.new)
open Dec2 (itoaT itoaT_size PowT FmtOk)
def ltx (y : N) : ByteArray := y.i ++ ⟨#[61]⟩ ++ itoaT y.n
def lP2 (y : N) : List ByteArray := [⟨#[32]⟩, ltx y]
def dP2 (x : D) (M : ByteArray) (k : Nat) : List ByteArray := [x.a, ⟨#[32]⟩, M, ⟨#[35]⟩, itoaT x.sq] ++ (x.ls.take k).flatMap lP2
def lP (y : N) : List ByteArray := [⟨#[32]⟩, y.i, ⟨#[61]⟩, itoaT y.n]
def dP (x : D) (M : ByteArray) (k : Nat) : List ByteArray := [x.a, ⟨#[32]⟩, M, ⟨#[35]⟩, itoaT x.sq] ++ (x.ls.take k).flatMap lP
theorem lP_len (l : List N) : (l.flatMap lP).length = 4 * l.length := by
  induction l with
  | nil => rfl
  | cons y l ih => simp only [List.flatMap_cons, List.length_append, ih, lP, List.length_cons, List.length_nil]; omega
theorem dP_more (x : D) (M : ByteArray) (k : Nat) (h : k < x.ls.length) : dP x M (k + 1) = dP x M k ++ [⟨#[32]⟩, (x.ls.getD k N.zero).i, ⟨#[61]⟩, itoaT (x.ls.getD k N.zero).n] := by
  unfold dP; rw [take_flat x.ls lP N.zero k h, ← List.append_assoc]; rfl
theorem dP2_more (x : D) (M : ByteArray) (k : Nat) (h : k < x.ls.length) : dP2 x M (k + 1) = dP2 x M k ++ [⟨#[32]⟩, ltx (x.ls.getD k N.zero)] := by
  unfold dP2; rw [take_flat x.ls lP2 N.zero k h, ← List.append_assoc]; rfl
theorem joinB_flat (l : List N) (h : List ByteArray) : joinB (h ++ l.flatMap lP2) = joinB (h ++ l.flatMap lP) := by
  induction l generalizing h with
  | nil => rfl
  | cons y l ih =>
    have h1 := ih (h ++ lP2 y)
    have h2 : joinB (h ++ lP2 y ++ l.flatMap lP) = joinB (h ++ lP y ++ l.flatMap lP) := by
      apply ByteArray.ext
      simp [joinB, lP, lP2, ltx]
    simp only [List.flatMap_cons, ← List.append_assoc] at *
    rw [h1, h2]
theorem dP2_join (x : D) (M : ByteArray) (k : Nat) : joinB (dP2 x M k) = joinB (dP x M k) := joinB_flat _ _
/-- What is known of a right document, in numbers. -/
theorem doc_bd {x : D} (h : dB x = true) : x.a.size ≤ 20 ∧ (0 ≤ x.mo ∧ x.mo ≤ 2760) ∧ (0 ≤ x.sq ∧ x.sq ≤ 1000000) ∧ x.ls.length ≤ 6 ∧ ∀ y ∈ x.ls, y.i.size ≤ 20 ∧ -1000000000000000 ≤ y.n ∧ y.n ≤ 1000000000000000 := by
  unfold dB at h
  simp only [Bool.and_eq_true, decide_eq_true_eq] at h
  obtain ⟨n1, n2, n3, n4, _⟩ := h
  have nl : ∀ s : ByteArray, NameR.nameB s = true → s.size ≤ 20 := fun s hs => by
    rcases Nat.lt_or_ge 20 s.size with q | q
    · rw [NameR.name_size (.inr q)] at hs; cases hs
    · exact q
  obtain ⟨l6, hok⟩ := sB_iff.1 n4
  refine ⟨nl _ n1, n2, n3, l6, fun y hy => ?_⟩
  obtain ⟨k, hk, rfl⟩ := List.mem_iff_getElem.1 hy
  have h2 := (hok k hk).2
  have e : x.ls.getD k N.zero = x.ls[k] := by simp [List.getD, hk]
  rw [e] at h2
  unfold lOk nOk at h2
  simp only [Bool.and_eq_true, decide_eq_true_eq] at h2
  exact ⟨nl _ h2.1, h2.2.1.1, h2.2.1.2⟩
theorem dP_le {x : D} {M : ByteArray} (h : dB x = true) (hM : M.size ≤ 30) (k : Nat) : (joinB (dP x M k)).size ≤ 2000 := by
  obtain ⟨b1, b2, b3, b4, b5⟩ := doc_bd h
  have h1 : ∀ y ∈ dP x M k, y.size ≤ 30 := by
    intro y hy
    have e1 : (⟨#[32]⟩ : ByteArray).size = 1 := rfl
    have e2 : (⟨#[35]⟩ : ByteArray).size = 1 := rfl
    have e3 : (⟨#[61]⟩ : ByteArray).size = 1 := rfl
    unfold dP at hy
    simp only [List.mem_append, List.mem_cons, List.not_mem_nil, or_false, List.mem_flatMap, lP] at hy
    rcases hy with (rfl | rfl | rfl | rfl | rfl) | ⟨u, hu, rfl | rfl | rfl | rfl⟩
    · omega
    · omega
    · omega
    · omega
    · have := itoaT_size (n := x.sq) (by omega) (by omega); omega
    · omega
    · have := b5 u (List.mem_of_mem_take hu); omega
    · omega
    · have := b5 u (List.mem_of_mem_take hu); have := itoaT_size (n := u.n) (by omega) (by omega); omega
  have h2 := join_size_le 30 _ h1
  have h3 : (dP x M k).length ≤ 29 := by
    unfold dP
    simp only [List.length_append, List.length_cons, List.length_nil, lP_len, List.length_take]
    omega
  omega
/-- The document's block, as the regions read it. -/
def DBx (w : World) (a : ByteArray) (mo sq : Int) (la : Option Addr) (ll lc : Nat) (W : World) : Prop := Below w.heap.size w W ∧ w.heap.size < W.heap.size ∧ W.cell? ⟨w.heap.size, 0, none⟩ = some (.string a) ∧ W.cell? ⟨w.heap.size, 1, none⟩ = some (.int .i64 mo) ∧ W.cell? ⟨w.heap.size, 2, none⟩ = some (.int .i64 sq) ∧ W.cell? ⟨w.heap.size, 3, none⟩ = some (.slice la ll lc)
theorem DBx.below {w : World} {a : ByteArray} {mo sq : Int} {la : Option Addr} {ll lc : Nat} {W W' : World} (h : DBx w a mo sq la ll lc W) (hb : Below W.heap.size W W') : DBx w a mo sq la ll lc W' := by
  obtain ⟨h0, h1, c0, c1, c2, c3⟩ := h
  have c := fun o => hb.cell (p := ⟨w.heap.size, o, none⟩) h1
  have := hb.size
  exact ⟨h0.trans (hb.mono h0.size), by omega, (c 0).trans c0, (c 1).trans c1, (c 2).trans c2, (c 3).trans c3⟩
theorem DBx.blk {w : World} {a : ByteArray} {mo sq : Int} {la : Option Addr} {ll lc : Nat} {W : World} (h : DBx w a mo sq la ll lc W) : Blk w.heap.size [.string a, .int .i64 mo, .int .i64 sq, .slice la ll lc] W := by
  obtain ⟨h0, h1, c0, c1, c2, c3⟩ := h
  exact ⟨h1, fun i hi => by
    match i, hi with
    | 0, _ => exact c0
    | 1, _ => exact c1
    | 2, _ => exact c2
    | 3, _ => exact c3⟩
theorem DBx.of {w : World} {a : ByteArray} {mo sq : Int} {la : Option Addr} {ll lc : Nat} {W : World} (hb : Below w.heap.size w W) (h : Blk w.heap.size [.string a, .int .i64 mo, .int .i64 sq, .slice la ll lc] W) : DBx w a mo sq la ll lc W :=
  ⟨hb, h.1, h.2 0 (by simp), h.2 1 (by simp), h.2 2 (by simp), h.2 3 (by simp)⟩
set_option maxHeartbeats 4000000 in
theorem line_text (y : N) (w : World) (hU : y.i.size ≤ 20) (h1 : -1000000000000000 ≤ y.n) (h2 : y.n ≤ 1000000000000000) (hFm : FmtOk) (hP : PowT w) :
    Calls Tryd.prog 16 #[.agg #[.string y.i, .int .i64 y.n]] w fun e w' => e = .returned (.string (ltx y)) ∧ Below w.heap.size w w' := by
  obtain ⟨U, P⟩ := y
  dsimp only at hU h1 h2 ⊢
  unfold ltx
  dsimp only
  have z1 : (itoaT P).size ≤ 20 := itoaT_size (by omega) (by omega)
  have HY := hid_intro (fun w hP => hFm P (by omega) (by omega) w hP)
  have HP := hid_intro hP
  generalize itoaT P = T at *
  have HJ := hid_intro (fun w => MonX.join3 U ⟨#[61]⟩ T w (by have : (⟨#[61]⟩ : ByteArray).size = 1 := rfl; omega))
  have HAl : Hid (BM2 w w.heap.size (.string U) (.int .i64 P) (w.alloc (.cells #[.string U, .int .i64 P] 40))) := hid_intro ⟨(Below.refl _ _).alloc (Nat.le_refl _) _, by simp, by simp [go_sem], by simp [go_sem]⟩
  have HAd := hid_intro HAl.out.drew
  have HPA := hid_intro (HP.out.below HAd.out.1)
  clear hFm hP h1 h2
  go_enter Tryd.func16, Tryd.ntmps16
  go_wp2_with fail
  go_region_held3 (fun W => Below w.heap.size w W ∧ w.heap.size < W.heap.size ∧ W.cell? ⟨w.heap.size, 0, none⟩ = some (.string U) ∧ W.cell? ⟨w.heap.size, 1, none⟩ = some (.int .i64 P))
    (first | assumption | (exact HAl.out) | (exact HAd.out) | (exact BM2.below (w := w) (B := w.heap.size) (by assumption) hb) | (exact BM2.below (w := w) (B := w.heap.size) (by assumption) ((Below.refl _ _).alloc (Nat.le_refl _) _)))
    (first | (go_at_call 15; refine (HY.out _ HPA.out).mono ?_; rintro e w' ⟨rfl, hb⟩) | (go_at_call 17; refine (HJ.out _).mono ?_; rintro e w' ⟨rfl, hb⟩))
  rename_i hS
  go_wp2_with fail
  go_ret
  exact ⟨rfl, hS.1⟩
set_option maxRecDepth 100000 in
set_option maxHeartbeats 8000000 in
theorem impl_dt_in (a : ByteArray) (mo sq : Int) (ls : List N) (la : Option Addr) (lc : Nat) (T1 T2 : ByteArray) (Q : Nat → List ByteArray) (w : World) (l1 : ls.length ≤ 6) (hL : Lis la ls w) (hP : PowT w) (hFm : FmtOk)
    (hr : ∀ W, Below w.heap.size w W → Calls Tryd.prog 13 #[.agg #[.string a, .int .i64 mo, .int .i64 sq, .slice la ls.length lc]] W fun e w' => e = .returned (.bool true) ∧ Below W.heap.size W w')
    (p1 : ∀ W, PowT W → Calls Tryd.prog 14 #[.int .i64 mo] W fun e w' => e = .returned (.string T1) ∧ Below W.heap.size W w')
    (p2 : ∀ W, PowT W → Calls Tryd.prog 15 #[.int .i64 sq, .int .i64 10] W fun e w' => e = .returned (.string T2) ∧ Below W.heap.size W w')
    (s9 : ∀ y ∈ ls, y.i.size ≤ 20 ∧ -1000000000000000 ≤ y.n ∧ y.n ≤ 1000000000000000)
    (hQ0 : Q 0 = [a, ⟨#[32]⟩, T1, ⟨#[35]⟩, T2]) (hQM : ∀ k, k < ls.length → Q (k + 1) = Q k ++ [⟨#[32]⟩, ltx (ls.getD k N.zero)]) (hQS : (joinB (Q ls.length)).size ≤ 2000) :
    Calls Tryd.prog 7 #[.agg #[.string a, .int .i64 mo, .int .i64 sq, .slice la ls.length lc]] w fun e w' => e = .returned (.string (joinB (Q ls.length))) ∧ Below w.heap.size w w' := by
  obtain ⟨i0, hi, hz0, hz1, hz2⟩ := info_parts infoS
  have HR := hid_intro hr
  have HL := hid_intro hL
  have HP := hid_intro hP
  have HFm := hid_intro hFm
  have P1 := hid_intro p1
  have P2 := hid_intro p2
  have S9 := hid_intro s9
  have HQ0 := hid_intro hQ0
  have HQM := hid_intro hQM
  have HQS := hid_intro hQS
  obtain ⟨R, hR⟩ : ∃ R, R = joinB (Q ls.length) := ⟨_, rfl⟩
  have HRR := hid_intro hR
  obtain ⟨ll, hll⟩ : ∃ ll, ll = ls.length := ⟨_, rfl⟩
  have HLL := hid_intro hll
  rw [← hll] at l1 HR HQM HQS HRR ⊢
  rw [← HRR.out]
  clear hr hL hP hFm p1 p2 s9 hQ0 hQM hQS hR hll
  have HB0 : Hid (Below w.heap.size w (w.alloc (.cells #[.string a, .int .i64 mo, .int .i64 sq, .slice la ll lc] 29))) := hid_intro ((Below.refl _ _).alloc (Nat.le_refl _) _)
  have HX0 := hid_intro (Blk.new w [.string a, .int .i64 mo, .int .i64 sq, .slice la ll lc] 29)
  go_enter Tryd.func7, Tryd.ntmps7
  go_wp2_with fail
  refine (HR.out _ HB0.out).mono ?_
  rintro e w1 ⟨rfl, hb1⟩
  have HS0 : Hid (DBx w a mo sq la ll lc w1.drew) := hid_intro (DBx.below (DBx.of (HB0.out.trans (hb1.mono HB0.out.size)) (HX0.out.below hb1)) (Below.refl _ _).drew)
  clear hb1 HB0 HX0
  go_wp2_with fail
  refine wp_region_held_drew (S := (fun W => Below w.heap.size w W ∧ w.heap.size < W.heap.size ∧ W.cell? ⟨w.heap.size, 0, none⟩ = some (.string a) ∧ W.cell? ⟨w.heap.size, 1, none⟩ = some (.int .i64 mo) ∧ W.cell? ⟨w.heap.size, 2, none⟩ = some (.int .i64 sq) ∧ W.cell? ⟨w.heap.size, 3, none⟩ = some (.slice la ll lc))) (by kernel_rfl) HS0.out (fun hHeld => ?_)
  refine wpAnyH_take (i := 0) (oi := { dst := some 9, op := Op.fieldAddr 29 (Operand.tmp 1) 0, type := 0, pos := "l09_ledger.go:237", after := #[], guard := none }) (v := ?_) rfl (by kernel_rfl) (by kernel_rfl) (by kernel_rfl) (fun _ _ _ h => h) (Or.inl ⟨by rfl, ?_⟩) (by assumption) ?_
  rotate_left
  · (intro w hSw; (try dsimp only at hSw); go_simp) <;> with_reducible rfl
  try simp only [Act.put, List.setIfInBounds_toArray, List.set_cons_zero, List.set_cons_succ]
  refine wpAnyH_take (i := 1) (oi := { dst := some 10, op := Op.load 9 (Operand.tmp 9), type := 9, pos := "l09_ledger.go:237", after := #[{ on := 0, ground := Ground.data }], guard := none }) (v := ?_) rfl (by kernel_rfl) (by kernel_rfl) (by kernel_rfl) (fun _ _ _ h => h) (Or.inl ⟨by rfl, ?_⟩) (by assumption) ?_
  rotate_left
  · (intro w hSw; (try dsimp only at hSw); go_simp) <;> with_reducible rfl
  try simp only [Act.put, List.setIfInBounds_toArray, List.set_cons_zero, List.set_cons_succ]
  refine wpAnyH_take (i := 2) (oi := { dst := some 11, op := Op.fieldAddr 29 (Operand.tmp 1) 1, type := 0, pos := "l09_ledger.go:237", after := #[], guard := none }) (v := ?_) rfl (by kernel_rfl) (by kernel_rfl) (by kernel_rfl) (fun _ _ _ h => h) (Or.inl ⟨by rfl, ?_⟩) (by assumption) ?_
  rotate_left
  · (intro w hSw; (try dsimp only at hSw); go_simp) <;> with_reducible rfl
  try simp only [Act.put, List.setIfInBounds_toArray, List.set_cons_zero, List.set_cons_succ]
  refine wpAnyH_take (i := 3) (oi := { dst := some 12, op := Op.load 2 (Operand.tmp 11), type := 2, pos := "l09_ledger.go:237", after := #[{ on := 2, ground := Ground.data }], guard := none }) (v := ?_) rfl (by kernel_rfl) (by kernel_rfl) (by kernel_rfl) (fun _ _ _ h => h) (Or.inl ⟨by rfl, ?_⟩) (by assumption) ?_
  rotate_left
  · (intro w hSw; (try dsimp only at hSw); go_simp) <;> with_reducible rfl
  try simp only [Act.put, List.setIfInBounds_toArray, List.set_cons_zero, List.set_cons_succ]
  refine wpAnyH_take (i := 5) (oi := { dst := some 14, op := Op.fieldAddr 29 (Operand.tmp 1) 2, type := 0, pos := "l09_ledger.go:237", after := #[], guard := none }) (v := ?_) rfl (by kernel_rfl) (by kernel_rfl) (by kernel_rfl) (fun _ _ _ h => h) (Or.inl ⟨by rfl, ?_⟩) (by assumption) ?_
  rotate_left
  · (intro w hSw; (try dsimp only at hSw); go_simp) <;> with_reducible rfl
  try simp only [Act.put, List.setIfInBounds_toArray, List.set_cons_zero, List.set_cons_succ]
  refine wpAnyH_take (i := 6) (oi := { dst := some 15, op := Op.load 2 (Operand.tmp 14), type := 2, pos := "l09_ledger.go:237", after := #[{ on := 5, ground := Ground.data }], guard := none }) (v := ?_) rfl (by kernel_rfl) (by kernel_rfl) (by kernel_rfl) (fun _ _ _ h => h) (Or.inl ⟨by rfl, ?_⟩) (by assumption) ?_
  rotate_left
  · (intro w hSw; (try dsimp only at hSw); go_simp) <;> with_reducible rfl
  try simp only [Act.put, List.setIfInBounds_toArray, List.set_cons_zero, List.set_cons_succ]
  refine wpAnyH_ready (rs := [4]) (by kernel_rfl) (by simp) ?_
  refine AllReadyH.cons (o := { dst := some 13, op := Op.call { callee := Callee.value (Operand.func 14), args := #[Operand.tmp 12], argTypes := #[2] }, type := 9, pos := "l09_ledger.go:237", after := #[{ on := 3, ground := Ground.data }], guard := none }) rfl (fun K hK => ?_) AllReadyH.nil
  go_simp
  go_at_call 14
  refine (P1.out _ (HP.out.below HS0.out.1)).mono ?_
  rintro e q1 ⟨rfl, hq1⟩
  try go_wp2_with fail
  have hk1 := DBx.below (w := w) (a := a) (mo := mo) (sq := sq) (la := la) (ll := ll) (lc := lc) HS0.out hq1
  refine hK.out _ _ hk1 (fun _ => ?_)
  clear hK K
  try simp only [Act.put, List.setIfInBounds_toArray, List.set_cons_zero, List.set_cons_succ]
  refine wpAnyH_ready (rs := [7]) (by kernel_rfl) (by simp) ?_
  refine AllReadyH.cons (o := { dst := some 16, op := Op.call { callee := Callee.value (Operand.func 15), args := #[Operand.tmp 15, Operand.const (Value.int IntKind.i64 10)], argTypes := #[2, 3] }, type := 9, pos := "l09_ledger.go:237", after := #[{ on := 6, ground := Ground.data }, { on := 4, ground := Ground.chain }], guard := none }) rfl (fun K hK => ?_) AllReadyH.nil
  go_simp
  go_at_call 15
  refine (P2.out _ (HP.out.below hk1.1)).mono ?_
  rintro e q2 ⟨rfl, hq2⟩
  try go_wp2_with fail
  have hk2 := DBx.below (w := w) (a := a) (mo := mo) (sq := sq) (la := la) (ll := ll) (lc := lc) hk1 hq2
  refine hK.out _ _ hk2 (fun _ => ?_)
  clear hK K
  try simp only [Act.put, List.setIfInBounds_toArray, List.set_cons_zero, List.set_cons_succ]
  refine wpAnyH_ready (rs := [8]) (by kernel_rfl) (by simp) ?_
  refine AllReadyH.cons (o := { dst := some 17, op := Op.buildSlice 38 5 #[(0, Operand.tmp 10), (1, Operand.const (Value.string { data := #[32] })), (2, Operand.tmp 13), (3, Operand.const (Value.string { data := #[35] })), (4, Operand.tmp 16)], type := 38, pos := "l09_ledger.go:237", after := #[{ on := 1, ground := Ground.data }, { on := 4, ground := Ground.data }, { on := 7, ground := Ground.data }], guard := none }) rfl (fun K hK => ?_) AllReadyH.nil
  go_simp
  try go_wp2_with fail
  have hk7 := DBx.below (w := w) (a := a) (mo := mo) (sq := sq) (la := la) (ll := ll) (lc := lc) hk2 ((Below.refl q2.heap.size q2).alloc (Nat.le_refl _) (Obj.cells #[Value.string a, Value.string ⟨#[32]⟩, Value.string T1, Value.string ⟨#[35]⟩, Value.string T2] 9))
  refine hK.out _ _ hk7 (fun _ => ?_)
  clear hK K
  try simp only [Act.put, List.setIfInBounds_toArray, List.set_cons_zero, List.set_cons_succ]
  refine wpAnyH_take (i := 9) (oi := { dst := some 3, op := Op.assign (Operand.tmp 17), type := 38, pos := "l09_ledger.go:237", after := #[{ on := 8, ground := Ground.data }, { on := 7, ground := Ground.chain }, { on := 0, ground := Ground.phase }, { on := 1, ground := Ground.phase }, { on := 2, ground := Ground.phase }, { on := 3, ground := Ground.phase }, { on := 4, ground := Ground.phase }, { on := 5, ground := Ground.phase }, { on := 6, ground := Ground.phase }, { on := 7, ground := Ground.phase }, { on := 8, ground := Ground.phase }], guard := none }) (v := ?_) rfl (by kernel_rfl) (by kernel_rfl) (by kernel_rfl) (fun _ _ _ h => h) (Or.inl ⟨by rfl, ?_⟩) (by assumption) ?_
  rotate_left
  · (intro w hSw; (try dsimp only at hSw); go_simp) <;> with_reducible rfl
  try simp only [Act.put, List.setIfInBounds_toArray, List.set_cons_zero, List.set_cons_succ]
  refine wpAnyH_done (by kernel_rfl) ?_ _
  have HO0 : Hid ((q2.alloc (Obj.cells #[Value.string a, Value.string ⟨#[32]⟩, Value.string T1, Value.string ⟨#[35]⟩, Value.string T2] 9)).ownsRow (w.heap.size + 1) 9 1 (.slice (some ⟨q2.heap.size, 0, none⟩) 5 5) (5 + 2 * 0) ((Q 0).map Value.string)) := hid_intro (by
    have := hk2.2.1
    rw [HQ0.out]
    exact ⟨by simp, .inr ⟨q2.heap.size, 5, #[.string a, .string ⟨#[32]⟩, .string T1, .string ⟨#[35]⟩, .string T2], rfl, by omega, heap_alloc_new q2 _, by omega, by unfold maxLen; omega, by simp, by simp⟩⟩)
  have HB7 := hid_intro hk7.1
  have HX7 := hid_intro (DBx.blk hk7)
  clear hk1 hk2 hk7 hq1 hq2 HS0
  obtain ⟨W7, hW7⟩ : ∃ W7, W7 = q2.alloc (Obj.cells #[Value.string a, Value.string ⟨#[32]⟩, Value.string T1, Value.string ⟨#[35]⟩, Value.string T2] 9) := ⟨_, rfl⟩
  rw [← hW7] at HO0 HB7 HX7 ⊢
  clear hW7
  have HV0 : Hid ((.slice (some ⟨q2.heap.size, 0, none⟩) 5 5 : Value) ≠ .slice none 0 0) := hid_intro (by simp)
  obtain ⟨xl, xc⟩ := HX7.out
  have x3 : W7.cell? ⟨w.heap.size, 3, none⟩ = some (.slice la ll lc) := xc 3 (by simp)
  clear xc
  go_wp2_with fail
  go_loopw [3, 21] (fun v z wx => ∃ (i : Nat), i ≤ ll ∧ z = .int .i64 i ∧ Hid (wx.ownsRow (w.heap.size + 1) 9 1 v (5 + 2 * i) ((Q i).map Value.string)) ∧ Hid (v ≠ .slice none 0 0) ∧ Hid (Below w.heap.size w wx)) (fun v z _ => ll - (intOf z).toNat)
  case atStart => exact ⟨0, by omega, rfl, HO0, HV0, HB7⟩
  case round =>
    clear HO0 HV0 HB7 HX7 xl x3
    obtain ⟨i, hi2, rfl, HO, HV, HB⟩ := hrel
    by_cases hlt3 : i < ll
    · have hlt2 : (i : Int) < (ll : Int) := by omega
      have hil : i < ls.length := by have := HLL.out; omega
      obtain ⟨b, off, rfl, hbl, c0, c1⟩ := (HL.out.below HB.out).at i hil
      have u1 := S9.out _ (RowG.getD_mem (z := N.zero) ls i hil)
      have HC1 := hid_intro (HQM.out i hlt3)
      generalize ls.getD i N.zero = Y at *
      obtain ⟨u2, u3, u4⟩ := u1
      have Q2 := hid_intro (fun w hP => line_text Y w u2 u3 u4 HFm.out hP)
      clear u2 u3 u4
      generalize ltx Y = X2 at *
      obtain ⟨U, P⟩ := Y
      dsimp only at c0 c1 Q2
      have HAl : Hid (Below w.heap.size w (wr.alloc (.cells #[.string U, .int .i64 P] 40))) := hid_intro (HB.out.alloc HB.out.size _)
      have HOA := hid_intro (HO.out.alloc (.cells #[.string U, .int .i64 P] 40))
      have HPA := hid_intro (HP.out.below HAl.out)
      have sz1 : 5 + 2 * i + 2 ≤ maxLen := by unfold maxLen; omega
      have sz2 : (5 + 2 * i + 2) * 16 ≤ 140737488355328 := by omega
      go_wp2_with fail
      refine (Q2.out _ HPA.out).mono ?_
      rintro e w2 ⟨rfl, hb2⟩
      have HO2 := hid_intro ((own_below HOA.out hb2).alloc (.cells #[.string ⟨#[32]⟩, .string X2] 9))
      have hb3 := HAl.out.trans (hb2.mono HAl.out.size)
      have HB3 : Hid (Below w.heap.size w (w2.alloc (.cells #[.string ⟨#[32]⟩, .string X2] 9))) := hid_intro (hb3.alloc hb3.size _)
      clear hb2 hb3 HOA HAl HPA
      go_wp2_with (at_builtin; refine wpList_append_own _ rfl _ _ 38 rfl (w.heap.size + 1) 9 i0 (.string ⟨#[]⟩) 1 16 Tryd.underlying38 hi hz0 hz1 hz2 rfl (by decide) _ _ _ rfl HO2.out ⟨w2.heap.size, 0, none⟩ 2 2 [.string ⟨#[32]⟩, .string X2] rfl rfl (two_cellsT _ _ _ _) (two_oneT _ _) sz1 sz2 (own_base HO2.out HV.out) ?_)
      intro v' w4 hown hgrow hne
      have HS4 := hid_intro (HB3.out.grown hgrow HB3.out.size (fun _ e => by have := (HO2.out.lt _ e).1; omega))
      have HO4 : Hid (w4.ownsRow (w.heap.size + 1) 9 1 v' (5 + 2 * (i + 1)) ((Q (i + 1)).map Value.string)) := hid_intro (by
        rw [HC1.out, List.map_append, show 5 + 2 * (i + 1) = 5 + 2 * i + 2 by omega]
        exact hown)
      have HV4 : Hid (v' ≠ .slice none 0 0) := hid_intro (by first | exact hne | exact fun h => HV.out (hne.1 h).1)
      clear hown hgrow hne
      go_wp2_with fail
      go_roundw
      case rel => exact ⟨i + 1, by omega, by go_num, HO4, HV4, HS4⟩
      case measure => simp [intOf]; omega
    · obtain rfl : i = ll := by omega
      obtain ⟨q, cap', rfl, hg, hn, hcap, hcell⟩ := own_texts HO.out HV.out
      have hj2 := JoinR.join_len (Q i) q cap' _ (by omega) (by omega) hg hcell (by rw [jl_size]; have := HQS.out; omega)
      rw [hn] at hj2
      have HJ2 := hid_intro hj2
      clear hj2 hcell
      go_wp2_with fail
      refine HJ2.out.mono ?_
      rintro e w6 ⟨rfl, hb⟩
      have HB6 := hid_intro (HB.out.trans (hb.mono HB.out.size))
      clear hb
      go_wp2_with fail
      go_ret
      exact ⟨ret_str HRR.out.symm, HB6.out⟩
end DocR
end Go.Proofs.YtpmimpenmphloaaDoor
