/-
  slices.Insert of one entry into a list of one's own. The condition: the list has at most 39 entries, the place lies in it.
-/
import Derived.Test.YtbhabplchcigfaaCopyK
import Derived.Test.YtbhabplchcigfaaEnS
namespace Go.Proofs.Ytbhabplchcigfaa
open Go.ChangeShapes Go.WideShapes Go.ChangeAt Go.RowKit
set_option linter.unusedVariables false
namespace SeenR
open RowG
theorem getD_or (xs : List N) (x : N) : cellsAll N.cells (xs ++ [x]) = cellsAll N.cells xs ++ x.cells := cellsAll_app xs x
set_option maxRecDepth 100000 in
set_option maxHeartbeats 4000000 in
theorem ins_end (base : Nat) (v : Value) (xs : List N) (x : N) (vb : Nat) (w : World) (hl : xs.length ≤ 39) (hb : base ≤ w.heap.size) (ho : w.ownsRow base 40 3 v xs.length (cellsAll N.cells xs))
    (hv : ∀ j u, x.cells[j]? = some u → w.cell? ⟨vb, j, none⟩ = some u) :
    Calls Try.prog 24 #[v, .int .i64 xs.length, .slice (some ⟨vb, 0, none⟩) 1 1] w fun e w' => ∃ v', e = .returned v' ∧ w'.ownsRow base 40 3 v' (xs ++ [x]).length (cellsAll N.cells (xs ++ [x])) ∧ w.grownBy w' v.ownBlock := by
  obtain ⟨i0, hi, hz0, hz1, hz2⟩ := info_parts infoN
  have HO := hid_intro ho
  have HV := hid_intro hv
  obtain ⟨n, hn⟩ : ∃ n, n = xs.length := ⟨_, rfl⟩
  rw [← hn] at hl ho HO ⊢
  have HN := hid_intro hn
  rcases ho.2 with ⟨rfl, h1⟩ | ⟨g, cap, cur, rfl, h1, h2, h3, h4, h5, h6⟩
  · subst h1
    clear ho hv hn
    go_enter Try.func24, Try.ntmps24
    go_wp2_with (at_builtin; refine wpList_append_own _ rfl _ _ 23 rfl base 40 i0 (.agg #[.string ⟨#[]⟩, .int .i64 0, .int .i64 0]) 3 32 Try.underlying23 hi hz0 hz1 hz2 rfl (by decide) _ _ _ rfl HO.out ⟨vb, 0, none⟩ 1 1 x.cells rfl rfl ?d1 ?d2 ?d3 ?d4 ?d5 ?_)
    case d1 => exact fun j u hj => by rw [Addr.add_lit, Nat.zero_add]; exact HV.out j u hj
    case d2 =>
      intro u hu
      simp only [N.cells, List.mem_cons, List.not_mem_nil, or_false] at hu
      rcases hu with rfl | rfl | rfl <;> rfl
    case d3 => unfold maxLen; omega
    case d4 => omega
    case d5 => exact hb
    intro v' w4 hown hgrow hne
    have HO4 : Hid (w4.ownsRow base 40 3 v' (xs ++ [x]).length (cellsAll N.cells (xs ++ [x]))) := hid_intro (by rw [cellsAll_app, List.length_append, ← HN.out]; exact hown)
    have HG4 := hid_intro hgrow
    clear hown hgrow hne
    go_wp2_with fail
    go_ret
    exact ⟨_, rfl, HO4.out, HG4.out⟩
  · clear ho hv hn h2 h5 h6
    unfold maxLen at h4
    have h3' : (n : Int) ≤ (cap : Int) := by omega
    by_cases hcn : cap = n
    · subst hcn
      go_enter Try.func24, Try.ntmps24
      go_wp2_with (at_builtin; refine wpList_append_own _ rfl _ _ 23 rfl base 40 i0 (.agg #[.string ⟨#[]⟩, .int .i64 0, .int .i64 0]) 3 32 Try.underlying23 hi hz0 hz1 hz2 rfl (by decide) _ _ _ rfl HO.out ⟨vb, 0, none⟩ 1 1 x.cells rfl rfl ?d1 ?d2 ?d3 ?d4 ?d5 ?_)
      case d1 => exact fun j u hj => by rw [Addr.add_lit, Nat.zero_add]; exact HV.out j u hj
      case d2 =>
        intro u hu
        simp only [N.cells, List.mem_cons, List.not_mem_nil, or_false] at hu
        rcases hu with rfl | rfl | rfl <;> rfl
      case d3 => unfold maxLen; omega
      case d4 => omega
      case d5 => exact hb
      intro v' w4 hown hgrow hne
      have HO4 : Hid (w4.ownsRow base 40 3 v' (xs ++ [x]).length (cellsAll N.cells (xs ++ [x]))) := hid_intro (by rw [cellsAll_app, List.length_append, ← HN.out]; exact hown)
      have HG4 := hid_intro hgrow
      clear hown hgrow hne
      go_wp2_with fail
      go_ret
      exact ⟨_, rfl, HO4.out, HG4.out⟩
    · go_enter Try.func24, Try.ntmps24
      go_wp2_with (at_builtin; refine wpList_append_own _ rfl _ _ 23 rfl base 40 i0 (.agg #[.string ⟨#[]⟩, .int .i64 0, .int .i64 0]) 3 32 Try.underlying23 hi hz0 hz1 hz2 rfl (by decide) _ _ _ rfl HO.out ⟨vb, 0, none⟩ 1 1 x.cells rfl rfl ?d1 ?d2 ?d3 ?d4 ?d5 ?_)
      case d1 => exact fun j u hj => by rw [Addr.add_lit, Nat.zero_add]; exact HV.out j u hj
      case d2 =>
        intro u hu
        simp only [N.cells, List.mem_cons, List.not_mem_nil, or_false] at hu
        rcases hu with rfl | rfl | rfl <;> rfl
      case d3 => unfold maxLen; omega
      case d4 => omega
      case d5 => exact hb
      intro v' w4 hown hgrow hne
      have HO4 : Hid (w4.ownsRow base 40 3 v' (xs ++ [x]).length (cellsAll N.cells (xs ++ [x]))) := hid_intro (by rw [cellsAll_app, List.length_append, ← HN.out]; exact hown)
      have HG4 := hid_intro hgrow
      clear hown hgrow hne
      go_wp2_with fail
      go_ret
      exact ⟨_, rfl, HO4.out, HG4.out⟩
theorem size3 : (Try.prog.info? 40).map (·.size) = some 3 := by kernel_rfl
theorem all_one (xs : List N) : ∀ v ∈ cellsAll N.cells xs, v.oneCell' = true := by
  intro v hv
  simp only [cellsAll, List.mem_flatMap, N.cells, List.mem_cons, List.not_mem_nil, or_false] at hv
  obtain ⟨x, _, rfl | rfl | rfl⟩ := hv <;> rfl
theorem one_one (x : N) : ∀ v ∈ x.cells, v.oneCell' = true := by
  intro v hv
  simp only [N.cells, List.mem_cons, List.not_mem_nil, or_false] at hv
  rcases hv with rfl | rfl | rfl <;> rfl
theorem cells_take (xs : List N) (i : Nat) : cellsAll N.cells (xs.take i) = (cellsAll N.cells xs).take (i * 3) := by
  induction xs generalizing i with
  | nil => simp [cellsAll]
  | cons x xs ih =>
    cases i with
    | zero => simp [cellsAll]
    | succ i =>
      have h := ih i
      simp only [cellsAll, List.take_succ_cons, List.flatMap_cons] at *
      rw [List.take_append, show x.cells.take ((i + 1) * 3) = x.cells from List.take_of_length_le (by rw [N.len]; omega), h, N.len, show (i + 1) * 3 - 3 = i * 3 by omega]
theorem cells_drop (xs : List N) (i : Nat) : cellsAll N.cells (xs.drop i) = (cellsAll N.cells xs).drop (i * 3) := by
  induction xs generalizing i with
  | nil => simp [cellsAll]
  | cons x xs ih =>
    cases i with
    | zero => simp [cellsAll]
    | succ i =>
      have h := ih i
      simp only [cellsAll, List.drop_succ_cons, List.flatMap_cons] at *
      rw [List.drop_append, show x.cells.drop ((i + 1) * 3) = [] from List.drop_of_length_le (by rw [N.len]; omega), h, N.len, show (i + 1) * 3 - 3 = i * 3 by omega, List.nil_append]
/-- A list with one more at a place. -/
def insAt (xs : List N) (i : Nat) (x : N) : List N := xs.take i ++ x :: xs.drop i
theorem insAt_len (xs : List N) (i : Nat) (x : N) (h : i ≤ xs.length) : (insAt xs i x).length = xs.length + 1 := by
  unfold insAt; simp; omega
theorem insAt_cells (xs : List N) (i : Nat) (x : N) : cellsAll N.cells (insAt xs i x) = (cellsAll N.cells xs).take (i * 3) ++ (x.cells ++ (cellsAll N.cells xs).drop (i * 3)) := by
  rw [← cells_take, ← cells_drop]
  unfold insAt
  simp [cellsAll]
theorem insAt_end (xs : List N) (x : N) : insAt xs xs.length x = xs ++ [x] := by
  unfold insAt; simp
theorem cut_whole (A X D R : List Value) (n : Nat) (h : A.length + X.length + D.length = n) : (A ++ (X ++ (D ++ R))).take n = A ++ (X ++ D) := by
  rw [show A ++ (X ++ (D ++ R)) = (A ++ (X ++ D)) ++ R by simp only [List.append_assoc]]
  exact List.take_left' (by simp only [List.length_append]; omega)
/-- In place: what stood behind moved on by one, then the one laid in. -/
theorem splice_in (C X D : List Value) (i3 : Nat) (hX : X.length = 3) (hi : i3 ≤ C.length) (S : List Value) (hS : 3 ≤ S.length) (hD : D = C.drop i3) :
    let cur := C ++ S
    let c1 := cur.take (i3 + 3) ++ (D ++ cur.drop (i3 + 3 + D.length))
    (c1.take i3 ++ (X ++ c1.drop (i3 + 3))).take (C.length + 3) = C.take i3 ++ (X ++ C.drop i3) := by
  intro cur c1
  have hDl : D.length = C.length - i3 := by rw [hD, List.length_drop]
  have e1 : c1.take i3 = C.take i3 := by
    show (cur.take (i3 + 3) ++ _).take i3 = _
    rw [List.take_append_of_le_length (by rw [List.length_take]; show i3 ≤ min (i3 + 3) (C ++ S).length; rw [List.length_append]; omega), List.take_take, Nat.min_eq_left (by omega)]
    show (C ++ S).take i3 = _
    rw [List.take_append_of_le_length hi]
  have hl : (cur.take (i3 + 3)).length = i3 + 3 := by
    rw [List.length_take]
    show min (i3 + 3) (C ++ S).length = _
    rw [List.length_append]; omega
  have e2 : c1.drop (i3 + 3) = D ++ cur.drop (i3 + 3 + D.length) := by
    show (cur.take (i3 + 3) ++ _).drop (i3 + 3) = _
    rw [List.drop_append, hl, Nat.sub_self, List.drop_zero, List.drop_of_length_le (by omega), List.nil_append]
  have l1 : (C.take i3).length = i3 := by rw [List.length_take]; omega
  have l2 : (C.drop i3).length = C.length - i3 := List.length_drop
  rw [e1, e2, hD]
  exact cut_whole _ _ _ _ _ (by rw [l1, hX, l2]; omega)
/-- In a new row. -/
theorem splice_new (C X Z : List Value) (i3 : Nat) (hX : X.length = 3) (hi : i3 ≤ C.length) (hZ : C.length + 3 - i3 ≤ Z.length) :
    let cur := C.take i3 ++ Z
    let c1 := cur.take i3 ++ (X ++ cur.drop (i3 + X.length))
    (c1.take (i3 + 3) ++ (C.drop i3 ++ c1.drop (i3 + 3 + (C.drop i3).length))).take (C.length + 3) = C.take i3 ++ (X ++ C.drop i3) := by
  intro cur c1
  have l1 : (C.take i3).length = i3 := by rw [List.length_take]; omega
  have l2 : (C.drop i3).length = C.length - i3 := List.length_drop
  have e0 : cur.take i3 = C.take i3 := by
    show (C.take i3 ++ Z).take i3 = _
    rw [List.take_append_of_le_length (by omega), List.take_take, Nat.min_self]
  have e1 : c1.take (i3 + 3) = C.take i3 ++ X := by
    show (cur.take i3 ++ _).take (i3 + 3) = _
    rw [e0, ← List.append_assoc, List.take_append_of_le_length (by rw [List.length_append]; omega), List.take_of_length_le (by rw [List.length_append]; omega)]
  rw [e1, List.append_assoc]
  exact cut_whole _ _ _ _ _ (by rw [l1, hX, l2]; omega)
set_option maxRecDepth 100000 in
set_option maxHeartbeats 4000000 in
theorem ins_grow (base g cap i : Nat) (cur : Array Value) (xs : List N) (x : N) (vb : Nat) (w : World) (hl : xs.length ≤ 39) (hb : base ≤ w.heap.size) (hi : i < xs.length) (hcap : xs.length = cap)
    (hg : w.heap[g]? = some (.cells cur 40 (0, 0))) (hcur : cur.toList.take (xs.length * 3) = cellsAll N.cells xs)
    (hv : ∀ j u, x.cells[j]? = some u → w.cell? ⟨vb, j, none⟩ = some u) :
    Calls Try.prog 24 #[.slice (some ⟨g, 0, none⟩) xs.length cap, .int .i64 i, .slice (some ⟨vb, 0, none⟩) 1 1] w fun e w' => ∃ v', e = .returned v' ∧ w'.ownsRow base 40 3 v' (xs.length + 1) (cellsAll N.cells (insAt xs i x)) ∧ Below w.heap.size w w' := by
  obtain ⟨i0, hi0, hz0, hz1, hz2⟩ := info_parts infoN
  subst hcap
  have hCl : (cellsAll N.cells xs).length = xs.length * 3 := cellsAll_len N.len xs
  have hcell : ∀ j u, (cellsAll N.cells xs)[j]? = some u → w.cell? ⟨g, j, none⟩ = some u := fun j u hj => by
    rw [← hcur, List.getElem?_take] at hj
    split at hj
    · simpa [World.cell?, hg] using hj
    · cases hj
  have hins := insAt_cells xs i x
  have hgl : g < w.heap.size := (Array.getElem?_eq_some_iff.1 hg).1
  have hvl : vb < w.heap.size := World.block_lt_of_cell? w ⟨vb, 0, none⟩ (hv 0 _ rfl)
  have h1c := all_one xs
  obtain ⟨C, hC⟩ : ∃ C, C = cellsAll N.cells xs := ⟨_, rfl⟩
  rw [← hC] at hCl hcell hins h1c
  obtain ⟨n, hn⟩ : ∃ n, n = xs.length := ⟨_, rfl⟩
  rw [← hn] at hl hi hCl ⊢
  rw [hins]
  clear hC hn hins hcur hg
  have hX : x.cells.length = 3 := rfl
  have h1x := one_one x
  generalize x.cells = X at *
  have hold : (Builtin.firstCells i0.size i (.slice (some ⟨g, 0, none⟩) i n)).run Try.prog w.drew = .ok (C.take (i * 3)).toArray w.drew := by
    rw [hz1]
    exact run_firstCells_some w.drew 3 i ⟨g, 0, none⟩ i n (C.take (i * 3)) (by rw [List.length_take]; omega) (fun j v hj => by
      rw [Addr.add_lit, Nat.zero_add]
      rw [List.getElem?_take] at hj
      split at hj
      · exact hcell j v hj
      · cases hj)
  obtain ⟨G, hG⟩ : ∃ G, G = grownCap w (n + 1) n 40 := ⟨_, rfl⟩
  have hGn : n + 1 ≤ G := by rw [hG]; exact grownCap_ge w _ _ _
  have hGm : G ≤ maxLen := by rw [hG]; exact grownCap_le_maxLen w _ _ _ (by unfold maxLen; omega)
  obtain ⟨ROW, hROW⟩ : ∃ ROW : Array Value, ROW = (C.take (i * 3)).toArray ++ Builtin.zeroCells (Value.agg #[.string ⟨#[]⟩, .int .i64 0, .int .i64 0]).cells (n + 1 - i) ++ Builtin.zeroCells (Value.agg #[.string ⟨#[]⟩, .int .i64 0, .int .i64 0]).cells (G - (n + 1)) := ⟨_, rfl⟩
  have hrz : ∀ ty, (Builtin.append_ #[23, 3] ty #[.slice (some ⟨g, 0, none⟩) i n, .int .i64 ((n : Int) + 1 - (i : Int))]).run Try.prog w =
      .ok (.slice (some ⟨w.heap.size, 0, none⟩) (n + 1) G) (w.drew.alloc (.cells ROW 40)) := fun ty => by
    have hik : i + (n + 1 - i) = n + 1 := by omega
    have h := Lib.run_append_grow_zeros (P := Try.prog) w 23 3 ty 40 i0 _ .i64 .i64 Try.underlying23 Try.underlying3 hi0 hz0 (some ⟨g, 0, none⟩) i n (C.take (i * 3)) hold (n + 1 - i) (by omega) (by rw [hz1]; omega) (by omega) (by omega) (by rw [hz2]; omega) (by rw [hz2, hik]; exact growslice_fits (by omega) (by omega))
    rw [hik] at h
    rw [show (n : Int) + 1 - (i : Int) = ((n + 1 - i : Nat) : Int) by omega, hG, hROW, hG]
    exact h
  obtain ⟨Z, hZ, hZl, hZs⟩ : ∃ Z : List Value, ROW.toList = C.take (i * 3) ++ Z ∧ (n + 1 - i) * 3 ≤ Z.length ∧ ROW.size = G * 3 := by
    refine ⟨(Builtin.zeroCells (Value.agg #[.string ⟨#[]⟩, .int .i64 0, .int .i64 0]).cells (n + 1 - i)).toList ++ (Builtin.zeroCells (Value.agg #[.string ⟨#[]⟩, .int .i64 0, .int .i64 0]).cells (G - (n + 1))).toList, by rw [hROW]; simp, ?_, ?_⟩
    · rw [List.length_append, Array.length_toList, Array.length_toList, size_zeroCells, size_zeroCells]
      show (n + 1 - i) * 3 ≤ (n + 1 - i) * 3 + (G - (n + 1)) * 3
      omega
    · rw [hROW, Array.size_append, Array.size_append, size_zeroCells, size_zeroCells]
      show (C.take (i * 3)).length + (n + 1 - i) * 3 + (G - (n + 1)) * 3 = G * 3
      rw [List.length_take]
      omega
  obtain ⟨W1, hW1⟩ : ∃ W1, W1 = w.drew.alloc (.cells ROW 40) := ⟨_, rfl⟩
  have hh1 : W1.heap[w.heap.size]? = some (.cells ROW 40 (0, 0)) := by rw [hW1]; exact heap_alloc_new w.drew _
  have hb1 : Below w.heap.size w W1 := by rw [hW1]; exact (Below.refl _ w).drew.alloc (Nat.le_refl _) _
  rw [← hW1] at hrz
  clear hW1 hROW hG hold hi0 hz0 hz1 hz2
  have hcA : ∀ ty dc, (Builtin.copy_ #[23, 23] ty #[.slice (some ⟨w.heap.size, i * 3, none⟩) (n + 1 - i) dc, .slice (some ⟨vb, 0, none⟩) 1 1]).run Try.prog W1 = .ok (goInt 1) (W1.setRow w.heap.size (ROW.toList.take (i * 3) ++ (X ++ ROW.toList.drop (i * 3 + X.length))).toArray) := fun ty dc => by
    have h := run_copy_k 3 W1 23 23 ty 40 w.heap.size (i * 3) (n + 1 - i) dc ⟨vb, 0, none⟩ 1 1 ROW 40 X Try.underlying23 size3 hh1 (by rw [hX]; simp only [Nat.min_def]; split <;> omega)
      (fun j u hj => by rw [Addr.add_lit, Nat.zero_add]; exact (hb1.cell (p := ⟨vb, j, none⟩) hvl).trans (hv j u hj)) (by rw [hX, hZs]; omega) h1x
    rw [show Nat.min 1 (n + 1 - i) = 1 by simp only [Nat.min_def]; split <;> omega] at h
    exact h
  obtain ⟨c1, hc1⟩ : ∃ c1, c1 = ROW.toList.take (i * 3) ++ (X ++ ROW.toList.drop (i * 3 + X.length)) := ⟨_, rfl⟩
  have hc1l : c1.length = G * 3 := by
    rw [hc1]
    simp only [List.length_append, List.length_take, List.length_drop, Array.length_toList, hZs, hX]
    omega
  have hfin := splice_new C X Z (i * 3) hX (by omega) (by omega)
  rw [← hZ] at hfin
  dsimp only at hfin
  rw [← hc1] at hcA hfin
  obtain ⟨W2, hW2⟩ : ∃ W2, W2 = W1.setRow w.heap.size c1.toArray := ⟨_, rfl⟩
  have hh2 : W2.heap[w.heap.size]? = some (.cells c1.toArray 40 (0, 0)) := by rw [hW2]; exact setRow_heap _ _ ROW _ 40 (0, 0) hh1
  have hb2 : Below w.heap.size w W2 := by rw [hW2]; exact below_setRow hb1 (Nat.le_refl _) _
  rw [← hW2] at hcA
  clear hW2 hc1 hh1 hZ
  have hDl : (C.drop (i * 3)).length = (n - i) * 3 := by rw [List.length_drop]; omega
  have hcB : ∀ ty dc sc, (Builtin.copy_ #[23, 23] ty #[.slice (some ⟨w.heap.size, (i + 1) * 3, none⟩) (n - i) dc, .slice (some ⟨g, i * 3, none⟩) (n - i) sc]).run Try.prog W2.drew = .ok (goInt ((n - i : Nat) : Int)) (W2.drew.setRow w.heap.size (c1.take (i * 3 + 3) ++ (C.drop (i * 3) ++ c1.drop (i * 3 + 3 + (C.drop (i * 3)).length))).toArray) := fun ty dc sc => by
    have h := run_copy_k 3 W2.drew 23 23 ty 40 w.heap.size (i * 3 + 3) (n - i) dc ⟨g, i * 3, none⟩ (n - i) sc c1.toArray 40 (C.drop (i * 3)) Try.underlying23 size3 hh2 (by rw [hDl]; simp only [Nat.min_def]; split <;> omega)
      (fun j u hj => by
        rw [Addr.add_lit]
        rw [List.getElem?_drop] at hj
        exact (hb2.cell (p := ⟨g, i * 3 + j, none⟩) hgl).trans (hcell _ u hj)) (by rw [hDl]; show i * 3 + 3 + (n - i) * 3 ≤ c1.length; omega) (fun v hv => h1c v (List.mem_of_mem_drop hv))
    rw [show Nat.min (n - i) (n - i) = n - i by simp only [Nat.min_def]; split <;> omega] at h
    rw [show (i + 1) * 3 = i * 3 + 3 by omega]
    exact h
  obtain ⟨c2, hc2⟩ : ∃ c2, c2 = c1.take (i * 3 + 3) ++ (C.drop (i * 3) ++ c1.drop (i * 3 + 3 + (C.drop (i * 3)).length)) := ⟨_, rfl⟩
  rw [← hc2] at hcB hfin
  have hc2l : c2.length = G * 3 := by
    rw [hc2]
    simp only [List.length_append, List.length_take, List.length_drop, hc1l]
    omega
  obtain ⟨W3, hW3⟩ : ∃ W3, W3 = W2.drew.setRow w.heap.size c2.toArray := ⟨_, rfl⟩
  have hh3 : W3.heap[w.heap.size]? = some (.cells c2.toArray 40 (0, 0)) := by rw [hW3]; exact setRow_heap _ _ c1.toArray _ 40 (0, 0) hh2
  have hb3 : Below w.heap.size w W3 := by rw [hW3]; exact below_setRow hb2.drew (Nat.le_refl _) _
  rw [← hW3] at hcB
  have HR : Hid (W3.ownsRow base 40 3 (.slice (some ⟨w.heap.size, 0, none⟩) (n + 1) G) (n + 1) (C.take (i * 3) ++ (X ++ C.drop (i * 3)))) := hid_intro ⟨by rw [List.length_append, List.length_append, List.length_take, hDl, hX]; omega, .inr ⟨w.heap.size, G, c2.toArray, rfl, hb, hh3, hGn, hGm, hc2l, by rw [← hfin, show (n + 1) * 3 = C.length + 3 by omega]⟩⟩
  have HB3 := hid_intro hb3
  unfold maxLen at hGm
  clear hW3 hh3 hb3 hh2 hb2 hb1 hc2 hc2l hc1l hfin hZl hZs hDl hCl h1c h1x hX hcell hv
  have q1 : ¬ ((i : Int) = (n : Int)) := by omega
  have q2 : (n : Int) < (n : Int) + 1 := by omega
  have q3 : (i : Int) ≤ (n : Int) := by omega
  have q4 : ¬ (G = i) := by omega
  have q5 : ¬ (G = i + 1) := by omega
  have q6 : ¬ (n = i) := by omega
  have q7 : IntKind.i64.wrap ((i : Int) + 1) = (i : Int) + 1 := by rw [IntKind.wrap_i64]; omega
  have q8 : ((i : Int) + 1).toNat = i + 1 := by omega
  have q9 : i ≤ n := by omega
  have q10 : (0 : Int) ≤ (i : Int) + 1 := by omega
  go_enter Try.func24, Try.ntmps24
  go_wp2_with (first
    | (at_builtin; refine Lib.wpList_append_run _ rfl _ _ _ _ rfl _ _ rfl rfl _ _ (hrz _) ?_)
    | (at_builtin; refine wpList_copy_eq _ rfl _ _ 23 23 rfl _ _ rfl rfl (hcA _ _) ?_))
  go_region_law (refine step_copy_eq rfl _ _ 23 23 rfl (.slice (some ⟨w.heap.size, (i + 1) * 3, none⟩) (n - i) (G - (i + 1))) (.slice (some ⟨g, i * 3, none⟩) (n - i) (n - i)) (by simp [Act.eval, Act.put]) (by simp [Act.eval, Act.put]) (hcB _ _ _) ?_)
  go_wp2_with fail
  go_ret
  exact ⟨_, rfl, HR.out, HB3.out⟩
theorem grown_row (w : World) (g : Nat) (cs : Array Value) : w.grownBy (w.setRow g cs) (some g) := ⟨rfl, rfl, rfl, by simp [World.setRow], fun k hk hne => setRow_other w g k cs (fun e => hne (by rw [e]))⟩
theorem grown_trans {w w1 w2 : World} {g : Option Nat} (h1 : w.grownBy w1 g) (h2 : w1.grownBy w2 g) : w.grownBy w2 g :=
  ⟨h2.os.trans h1.os, h2.tape.trans h1.tape, h2.output.trans h1.output, Nat.le_trans h1.size h2.size, fun k hk hne => (h2.block k (by have := h1.size; omega) hne).trans (h1.block k hk hne)⟩
theorem grown_drew {w w1 : World} {g : Option Nat} (h : w.grownBy w1 g) : w.grownBy w1.drew g := ⟨h.os, h.tape, h.output, h.size, h.block⟩
set_option maxRecDepth 100000 in
set_option maxHeartbeats 4000000 in
theorem ins_room (base g cap i : Nat) (cur : Array Value) (xs : List N) (x : N) (vb : Nat) (vcur : Array Value) (Tv : TypeId) (w : World) (hl : xs.length ≤ 39) (hbg : base ≤ g) (hi : i < xs.length) (hcap : xs.length + 1 ≤ cap) (hcm : cap ≤ maxLen) (hcs : cur.size = cap * 3)
    (hg : w.heap[g]? = some (.cells cur 40 (0, 0))) (hcur : cur.toList.take (xs.length * 3) = cellsAll N.cells xs)
    (hvh : w.heap[vb]? = some (.cells vcur Tv (0, 0))) (hne : vb ≠ g)
    (hv : ∀ j u, x.cells[j]? = some u → w.cell? ⟨vb, j, none⟩ = some u) :
    Calls Try.prog 24 #[.slice (some ⟨g, 0, none⟩) xs.length cap, .int .i64 i, .slice (some ⟨vb, 0, none⟩) 1 1] w fun e w' => ∃ v', e = .returned v' ∧ w'.ownsRow base 40 3 v' (xs.length + 1) (cellsAll N.cells (insAt xs i x)) ∧ w.grownBy w' (some g) := by
  have hCl : (cellsAll N.cells xs).length = xs.length * 3 := cellsAll_len N.len xs
  have hcell : ∀ j u, (cellsAll N.cells xs)[j]? = some u → w.cell? ⟨g, j, none⟩ = some u := fun j u hj => by
    rw [← hcur, List.getElem?_take] at hj
    split at hj
    · simpa [World.cell?, hg] using hj
    · cases hj
  have hins := insAt_cells xs i x
  have h1c := all_one xs
  obtain ⟨C, hC⟩ : ∃ C, C = cellsAll N.cells xs := ⟨_, rfl⟩
  rw [← hC] at hCl hcell hins h1c hcur
  obtain ⟨n, hn⟩ : ∃ n, n = xs.length := ⟨_, rfl⟩
  rw [← hn] at hl hi hCl hcap hcur ⊢
  rw [hins]
  clear hC hn hins
  have hX : x.cells.length = 3 := rfl
  have h1x := one_one x
  generalize x.cells = X at *
  obtain ⟨S, hS⟩ : ∃ S, S = cur.toList.drop (n * 3) := ⟨_, rfl⟩
  have hCS : cur.toList = C ++ S := by rw [hS, ← hcur, List.take_append_drop]
  have hSl : 3 ≤ S.length := by rw [hS, List.length_drop, Array.length_toList, hcs]; omega
  have hov : ∀ lb cb, (callFunc 49 #[.slice (some ⟨vb, 0, none⟩) 1 1, .slice (some ⟨g, (i + 1) * 3, none⟩) lb cb]).run Try.prog w = .ok (.value (.bool false)) w := fun lb cb => by
    rw [run_callFunc_extern Try.func49 (by kernel_rfl) (by kernel_rfl) (by kernel_rfl) (e := Extern.SlicesOverlaps.overlaps #[23, 23] #[4]) (by kernel_rfl),
      Lib.run_overlaps_apart w 23 4 40 Try.underlying23 3 Try.sizeOf40 ⟨vb, 0, none⟩ ⟨g, (i + 1) * 3, none⟩ 1 1 lb cb hne Tv 40 vcur.size cur.size (by unfold World.shape?; rw [hvh]) (by unfold World.shape?; rw [hg]) (by omega) (by simp [World.frozen?, hvh]) (by simp [World.frozen?, hvh])]
    rfl
  have hDl : (C.drop (i * 3)).length = (n - i) * 3 := by rw [List.length_drop]; omega
  have hcA : ∀ ty dc sc, (Builtin.copy_ #[23, 23] ty #[.slice (some ⟨g, (i + 1) * 3, none⟩) (n - i) dc, .slice (some ⟨g, i * 3, none⟩) (n + 1 - i) sc]).run Try.prog w.drew = .ok (goInt ((n - i : Nat) : Int)) (w.drew.setRow g (cur.toList.take (i * 3 + 3) ++ (C.drop (i * 3) ++ cur.toList.drop (i * 3 + 3 + (C.drop (i * 3)).length))).toArray) := fun ty dc sc => by
    have h := run_copy_k 3 w.drew 23 23 ty 40 g (i * 3 + 3) (n - i) dc ⟨g, i * 3, none⟩ (n + 1 - i) sc cur 40 (C.drop (i * 3)) Try.underlying23 size3 hg (by rw [hDl]; simp only [Nat.min_def]; split <;> omega)
      (fun j u hj => by
        rw [Addr.add_lit]
        rw [List.getElem?_drop] at hj
        exact hcell _ u hj) (by rw [hDl, hcs]; omega) (fun v hv => h1c v (List.mem_of_mem_drop hv))
    rw [show Nat.min (n + 1 - i) (n - i) = n - i by simp only [Nat.min_def]; split <;> omega] at h
    rw [show (i + 1) * 3 = i * 3 + 3 by omega]
    exact h
  have hfin := splice_in C X (C.drop (i * 3)) (i * 3) hX (by omega) S hSl rfl
  rw [← hCS] at hfin
  dsimp only at hfin
  obtain ⟨c1, hc1⟩ : ∃ c1, c1 = cur.toList.take (i * 3 + 3) ++ (C.drop (i * 3) ++ cur.toList.drop (i * 3 + 3 + (C.drop (i * 3)).length)) := ⟨_, rfl⟩
  have hc1l : c1.length = cap * 3 := by
    rw [hc1]
    simp only [List.length_append, List.length_take, List.length_drop, Array.length_toList, hcs]
    omega
  rw [← hc1] at hcA hfin
  obtain ⟨W1, hW1⟩ : ∃ W1, W1 = w.drew.setRow g c1.toArray := ⟨_, rfl⟩
  have hh1 : W1.heap[g]? = some (.cells c1.toArray 40 (0, 0)) := by rw [hW1]; exact setRow_heap _ _ cur _ 40 (0, 0) hg
  have hg1 : w.grownBy W1 (some g) := by rw [hW1]; exact grown_trans (grown_drew ⟨rfl, rfl, rfl, Nat.le_refl _, fun _ _ _ => rfl⟩) (grown_row w.drew g _)
  rw [← hW1] at hcA
  have hvl : vb < w.heap.size := (Array.getElem?_eq_some_iff.1 hvh).1
  have hcB : ∀ ty dc, (Builtin.copy_ #[23, 23] ty #[.slice (some ⟨g, i * 3, none⟩) (n + 1 - i) dc, .slice (some ⟨vb, 0, none⟩) 1 1]).run Try.prog W1 = .ok (goInt 1) (W1.setRow g (c1.take (i * 3) ++ (X ++ c1.drop (i * 3 + X.length))).toArray) := fun ty dc => by
    have h := run_copy_k 3 W1 23 23 ty 40 g (i * 3) (n + 1 - i) dc ⟨vb, 0, none⟩ 1 1 c1.toArray 40 X Try.underlying23 size3 hh1 (by rw [hX]; simp only [Nat.min_def]; split <;> omega)
      (fun j u hj => by
        rw [Addr.add_lit, Nat.zero_add]
        exact (World.cell?_of_block (a := ⟨vb, j, none⟩) (hg1.block vb hvl (fun e => hne (by simpa using e)))).trans (hv j u hj)) (by rw [hX]; show i * 3 + 3 ≤ c1.length; omega) h1x
    rw [show Nat.min 1 (n + 1 - i) = 1 by simp only [Nat.min_def]; split <;> omega] at h
    exact h
  obtain ⟨c2, hc2⟩ : ∃ c2, c2 = c1.take (i * 3) ++ (X ++ c1.drop (i * 3 + X.length)) := ⟨_, rfl⟩
  have hc2l : c2.length = cap * 3 := by
    rw [hc2]
    simp only [List.length_append, List.length_take, List.length_drop, hc1l, hX]
    omega
  have hc3 : c1.take (i * 3) ++ (X ++ c1.drop (i * 3 + 3)) = c2 := by rw [hc2, hX]
  rw [hc3] at hfin
  rw [← hc2] at hcB
  obtain ⟨W2, hW2⟩ : ∃ W2, W2 = W1.setRow g c2.toArray := ⟨_, rfl⟩
  have hh2 : W2.heap[g]? = some (.cells c2.toArray 40 (0, 0)) := by rw [hW2]; exact setRow_heap _ _ c1.toArray _ 40 (0, 0) hh1
  have hg2 : w.grownBy W2 (some g) := by rw [hW2]; exact grown_trans hg1 (grown_row W1 g _)
  rw [← hW2] at hcB
  have HR : Hid (W2.ownsRow base 40 3 (.slice (some ⟨g, 0, none⟩) (n + 1) cap) (n + 1) (C.take (i * 3) ++ (X ++ C.drop (i * 3)))) := hid_intro ⟨by rw [List.length_append, List.length_append, List.length_take, hDl, hX]; omega, .inr ⟨g, cap, c2.toArray, rfl, hbg, hh2, hcap, hcm, hc2l, by rw [← hfin, show (n + 1) * 3 = C.length + 3 by omega]⟩⟩
  have HG2 := hid_intro hg2
  unfold maxLen at hcm
  clear hW2 hh2 hg2 hc3 hc2 hc2l hW1 hh1 hg1 hc1 hc1l hfin hDl hCl h1c h1x hX hcell hv hS hCS hSl hcur hcs hg hvh
  have q1 : ¬ ((i : Int) = (n : Int)) := by omega
  have q2 : ¬ (cap : Int) < (n : Int) + 1 := by omega
  have q3 : (i : Int) ≤ (n : Int) := by omega
  have q4 : ¬ (cap = i) := by omega
  have q5 : ¬ (cap = i + 1) := by omega
  have q7 : IntKind.i64.wrap ((i : Int) + 1) = (i : Int) + 1 := by rw [IntKind.wrap_i64]; omega
  have q8 : ((i : Int) + 1).toNat = i + 1 := by omega
  have q9 : i ≤ n := by omega
  have q10 : (0 : Int) ≤ (i : Int) + 1 := by omega
  have q11 : (i : Int) ≤ (n : Int) + 1 := by omega
  go_enter Try.func24, Try.ntmps24
  go_wp2_with (simp only [hov])
  go_region_law (refine step_copy_eq rfl _ _ 23 23 rfl (.slice (some ⟨g, (i + 1) * 3, none⟩) (n - i) (cap - (i + 1))) (.slice (some ⟨g, i * 3, none⟩) (n + 1 - i) (cap - i)) (by simp [Act.eval, Act.put]) (by simp [Act.eval, Act.put]) (hcA _ _ _) ?_)
  go_wp2_with (at_builtin; refine wpList_copy_eq _ rfl _ _ 23 23 rfl _ _ rfl rfl (hcB _ _) ?_)
  go_ret
  exact ⟨_, rfl, HR.out, HG2.out⟩
/-- One entry laid into a list of one's own, wherever. -/
theorem ins_any (base i : Nat) (v : Value) (xs : List N) (x : N) (vb : Nat) (vcur : Array Value) (Tv : TypeId) (w : World) (hl : xs.length ≤ 39) (hb : base ≤ w.heap.size) (hi : i ≤ xs.length) (ho : w.ownsRow base 40 3 v xs.length (cellsAll N.cells xs))
    (hvh : w.heap[vb]? = some (.cells vcur Tv (0, 0))) (hne : v.ownBlock ≠ some vb) (hv : ∀ j u, x.cells[j]? = some u → w.cell? ⟨vb, j, none⟩ = some u) :
    Calls Try.prog 24 #[v, .int .i64 i, .slice (some ⟨vb, 0, none⟩) 1 1] w fun e w' => ∃ v', e = .returned v' ∧ w'.ownsRow base 40 3 v' (insAt xs i x).length (cellsAll N.cells (insAt xs i x)) ∧ w.grownBy w' v.ownBlock := by
  by_cases he : i = xs.length
  · subst he
    rw [insAt_end]
    exact ins_end base v xs x vb w hl hb ho hv
  · rw [insAt_len xs i x hi]
    rcases ho.2 with ⟨_, h1⟩ | ⟨g, cap, cur, rfl, h1, h2, h3, h4, h5, h6⟩
    · omega
    · by_cases hc : xs.length = cap
      · refine (ins_grow base g cap i cur xs x vb w hl hb (by omega) hc h2 h6 hv).mono ?_
        rintro e w' ⟨v', rfl, o', b'⟩
        exact ⟨v', rfl, o', ⟨b'.os, b'.tape, b'.output, b'.size, fun k hk _ => b'.block k hk⟩⟩
      · exact ins_room base g cap i cur xs x vb vcur Tv w hl h1 (by omega) (by omega) h4 h5 h2 h6 hvh (fun e => hne (by rw [e]; rfl)) hv
end SeenR
end Go.Proofs.Ytbhabplchcigfaa
