/-
  The model's way to put a line among others in its place. The conditions: at most 1048575 lines, in a list that has room for them.
  The names that the model's bill goes by: each of an account's windows with its place, put among others by its meter. No condition.
-/
import Derived.Deep.QuietTactic
import Derived.Test.YtcilbmhkhllmjaaGreatDoorB19
namespace Go.Proofs.YtcilbmhkhllmjaaGreatDoor
open Go.ChangeShapes Go.WideShapes Go.ChangeAt Go.RowKit
set_option linter.unusedVariables false
namespace NetR
open LinR RowG LtR
open DocR (BlkW BlkW.new BlkW.below)
theorem al (w : World) (o : Obj) : Below w.heap.size w (w.alloc o) := (Below.refl _ _).alloc (Nat.le_refl _) _
theorem rws_sub {α : Type} {k : Nat} {cells : α → List Value} {z : α} {b off i n : Nat} {xs : List α} {w : World} (hk : ∀ x, (cells x).length = k) (h : Rws k cells z (some ⟨b, off, none⟩) xs w) : ∀ j u, (cellsAll cells ((xs.drop i).take n))[j]? = some u → w.cell? ((⟨b, off + i * k, none⟩ : Addr).add j) = some u := by
  intro j u hj
  have hlt := (List.getElem?_eq_some_iff.1 hj).1
  rw [cellsAll_len hk] at hlt
  have hk0 : 0 < k := by
    rcases Nat.eq_zero_or_pos k with e | e
    · rw [e, Nat.mul_zero] at hlt; omega
    · exact e
  obtain ⟨d, r, rfl, hr⟩ : ∃ d r, j = d * k + r ∧ r < k := ⟨j / k, j % k, by rw [Nat.mul_comm]; exact (Nat.div_add_mod j k).symm, Nat.mod_lt _ hk0⟩
  have hi : d < ((xs.drop i).take n).length := Nat.lt_of_mul_lt_mul_right (a := k) (Nat.lt_of_le_of_lt (Nat.le_add_right _ _) hlt)
  have hi2 : i + d < xs.length := by simp at hi; omega
  have hn : d < n := by simp at hi; omega
  have eg : ((xs.drop i).take n).getD d z = xs.getD (i + d) z := by simp [List.getD, hn]
  rw [cellsAll_get (z := z) hk _ d r hi hr, eg] at hj
  rcases h with h0 | ⟨b', off', he, _, hc⟩
  · omega
  · simp only [Option.some.injEq, Addr.mk.injEq, and_true] at he
    obtain ⟨rfl, rfl⟩ := he
    have := hc (i + d) hi2 r hr
    rw [Addr.add_lit, show off + i * k + (d * k + r) = off + (i + d) * k + r by rw [Nat.add_mul]; omega, this]
    exact hj
theorem ins_cells {α : Type} {cells : α → List Value} (a : List α) (x : α) (b : List α) : cellsAll cells (a ++ x :: b) = cellsAll cells a ++ cells x ++ cellsAll cells b := by simp [cellsAll]
theorem ins_len2 {α : Type} (ts : List α) (q : Nat) (t : α) (h : q ≤ ts.length) : (ts.take q ++ t :: ts.drop q).length = ts.length + 1 := by simp; omega
theorem lis_one (L : List N) : ∀ v ∈ cellsAll N.cells L, v.oneCell' = true := by
  intro v hv
  simp only [cellsAll, List.mem_flatMap] at hv
  obtain ⟨x, _, h⟩ := hv
  exact two_one x v h
theorem bdn {B : Nat} {a w : World} (h : Below B a w) (n : Nat) : Below B a (w.drewN n) := ⟨h.os, h.tape, h.output, h.size, h.block⟩
theorem blkw_grown {b : Nat} {cs : List Value} {w w' : World} {row : Option Nat} (h : BlkW b cs w) (hg : w.grownBy w' row) (hne : some b ≠ row) : BlkW b cs w' := by
  have e := hg.block b h.1.1 hne
  exact ⟨⟨by have := hg.size; have := h.1.1; omega, fun i hi => (World.cell?_of_block (a := ⟨b, i, none⟩) e).trans (h.1.2 i hi)⟩, fun i hi => (World.frozen?_of_block (a := ⟨b, i, none⟩) e).trans (h.2 i hi)⟩
theorem lis_two {b off : Nat} {L : List N} {w : World} (h : Lis (some ⟨b, off, none⟩) L w) (q : Nat) (hq : q < L.length) : b < w.heap.size ∧ w.cell? ⟨b, off + q * 2, none⟩ = some (.string (L.getD q N.zero).i) ∧ w.cell? ⟨b, off + q * 2 + 1, none⟩ = some (.int .i64 (L.getD q N.zero).n) := by
  obtain ⟨b', off', e, hl, c0, c1⟩ := h.at q hq
  simp only [Option.some.injEq, Addr.mk.injEq, and_true] at e
  obtain ⟨rfl, rfl⟩ := e
  exact ⟨hl, c0, c1⟩
/-- Is there one of its Meter, where it is looked for? -/
def fnd : List N → ByteArray → Bool
  | [], _ => false
  | y :: l, x => bif lt y.i x then fnd l x else y.i.toList == x.toList
theorem fnd_end : ∀ (L : List N) (x : ByteArray), (∀ j, j < L.length → lt (L.getD j N.zero).i x = true) → fnd L x = false
  | [], x, _ => rfl
  | y :: l, x, h => by
    have h0 : lt y.i x = true := by simpa using h 0 (by simp)
    rw [fnd, h0, cond_true]
    exact fnd_end l x (fun j hj => by simpa using h (j + 1) (by simpa using hj))
theorem fnd_at : ∀ (L : List N) (x : ByteArray) (q : Nat), q < L.length → (∀ j, j < q → lt (L.getD j N.zero).i x = true) → lt (L.getD q N.zero).i x = false → fnd L x = ((L.getD q N.zero).i.toList == x.toList)
  | [], x, q, hq, _, _ => by simp at hq
  | y :: l, x, 0, hq, _, h1 => by
    have h2 : lt y.i x = false := by simpa using h1
    rw [fnd, h2, cond_false]
    rfl
  | y :: l, x, q + 1, hq, h0, h1 => by
    have h2 : lt y.i x = true := by simpa using h0 0 (by omega)
    rw [fnd, h2, cond_true]
    simpa using fnd_at l x q (by simpa using hq) (fun j hj => by simpa using h0 (j + 1) (by omega)) (by simpa using h1)
/-- What is handed back. -/
def SLn (b off cap : Nat) (L : List N) (xi : ByteArray) (xn : Int) (w : World) (e : Ending) (w' : World) : Prop :=
  (fnd L xi = true ∧ e = .returned (.tuple #[.slice (some ⟨b, off, none⟩) L.length cap, .bool false]) ∧ Below w.heap.size w w') ∨
  (fnd L xi = false ∧ (∃ v, e = .returned (.tuple #[v, .bool true]) ∧ w'.ownsRow w.heap.size 58 2 v (put L ⟨xi, xn⟩).length (cellsAll N.cells (put L ⟨xi, xn⟩))) ∧ Below w.heap.size w w')
set_option maxRecDepth 100000 in
set_option maxHeartbeats 8000000 in
theorem sline (b off cap : Nat) (L : List N) (xi : ByteArray) (xn : Int) (w : World) (hl : L.length ≤ 1048575) (hcap : L.length ≤ cap) (hcm : cap ≤ maxLen) (hT : Lis (some ⟨b, off, none⟩) L w) :
    Calls Tryz.prog 82 #[.slice (some ⟨b, off, none⟩) L.length cap, .agg #[.string xi, .int .i64 xn]] w (SLn b off cap L xi xn w) := by
  obtain ⟨i0, hi, hz0, hz1, hz2⟩ := info_parts infoN
  have HT := hid_intro hT
  obtain ⟨len, hlen⟩ : ∃ len, len = L.length := ⟨_, rfl⟩
  have HP : Hid (∀ e w', SLn b off cap L xi xn w e w' ↔ (fnd L xi = true ∧ e = .returned (.tuple #[.slice (some ⟨b, off, none⟩) len cap, .bool false]) ∧ Below w.heap.size w w') ∨ (fnd L xi = false ∧ (∃ v, e = .returned (.tuple #[v, .bool true]) ∧ w'.ownsRow w.heap.size 58 2 v (put L ⟨xi, xn⟩).length (cellsAll N.cells (put L ⟨xi, xn⟩))) ∧ Below w.heap.size w w')) := hid_intro (fun e w' => by rw [hlen]; rfl)
  rw [← hlen] at hl hcap ⊢
  have HL := hid_intro hlen
  have HEND : Hid ((∀ j, j < L.length → lt (L.getD j N.zero).i xi = true) → put L ⟨xi, xn⟩ = L ++ [⟨xi, xn⟩] ∧ fnd L xi = false) := hid_intro (fun h => ⟨ins_end (z := N.zero) (r := nlt) (f := addN) L ⟨xi, xn⟩ h, fnd_end L xi h⟩)
  have HAT : Hid (∀ q, q < L.length → (∀ j, j < q → lt (L.getD j N.zero).i xi = true) → lt (L.getD q N.zero).i xi = false → (lt xi (L.getD q N.zero).i = true → put L ⟨xi, xn⟩ = L.take q ++ ⟨xi, xn⟩ :: L.drop q) ∧ fnd L xi = ((L.getD q N.zero).i.toList == xi.toList)) := hid_intro (fun q h1 h2 h3 => ⟨(ins_at (z := N.zero) (r := nlt) (f := addN) L ⟨xi, xn⟩ q h1 h2 h3).1, fnd_at L xi q h1 h2 h3⟩)
  generalize SLn b off cap L xi xn w = PP at *
  generalize put L ⟨xi, xn⟩ = R at *
  generalize fnd L xi = F at *
  unfold maxLen at hcm
  clear hT hlen
  have HX0 := hid_intro (BlkW.new w [.string xi, .int .i64 xn] 58)
  have HB0 := hid_intro (al w (.cells #[.string xi, .int .i64 xn] 58))
  go_enter Tryz.func82, Tryz.ntmps82
  go_wp2_with fail
  go_loopw [6] (fun zv wr => ∃ q : Nat, q ≤ len ∧ zv = .int .i64 (q : Int) ∧ Hid (Below w.heap.size w wr) ∧ Hid (BlkW w.heap.size [.string xi, .int .i64 xn] wr) ∧ Hid (∀ j, j < q → lt (L.getD j N.zero).i xi = true)) (fun zv _ => len - (intOf zv).toNat)
  case atStart => exact ⟨0, by omega, rfl, HB0, HX0, hid_intro (fun j hj => absurd hj (by omega))⟩
  case round =>
    clear HX0 HB0
    obtain ⟨q, hq, rfl, HB, HX, HQ⟩ := hrel
    have c0 : wr.cell? ⟨w.heap.size, 0, none⟩ = some (.string xi) := HX.out.1.2 0 (by simp)
    have hwl := HX.out.1.1
    by_cases hlt1 : q < len
    · have hlt2 : (q : Int) < (len : Int) := by omega
      have hqs : q < L.length := by have := HL.out; omega
      have HTQ : Hid (∀ W, Below w.heap.size w W → b < W.heap.size ∧ W.cell? ⟨b, off + q * 2, none⟩ = some (.string (L.getD q N.zero).i) ∧ W.cell? ⟨b, off + q * 2 + 1, none⟩ = some (.int .i64 (L.getD q N.zero).n)) := hid_intro (fun W hW => lis_two (HT.out.below hW) q hqs)
      cases hc : lt (L.getD q N.zero).i xi
      · have HA := hid_intro (HAT.out q hqs HQ.out hc)
        have hc1 := hc
        unfold lt at hc1
        generalize L.getD q N.zero = Y at *
        obtain ⟨yi, yn⟩ := Y
        dsimp only at hc1 HA hc HTQ
        obtain ⟨hbl, d0, d1⟩ := HTQ.out wr HB.out
        go_wp2_with fail
        go_quiet (fail)
        obtain ⟨W1, hWn⟩ : ∃ Wn, Wn = wr.drewN nq := ⟨_, rfl⟩
        rw [← hWn]
        have HDW : Hid (Below wr.heap.size wr W1) := hid_intro (by rw [hWn]; exact bdn (Below.refl _ _) _)
        clear hWn
        have HBn := hid_intro (HB.out.trans (HDW.out.mono HB.out.size))
        have HXn := hid_intro (HX.out.below HDW.out)
        clear HB HX HDW c0 hwl
        have HB := HBn
        have HX := HXn
        clear HBn HXn
        have c0 : W1.cell? ⟨w.heap.size, 0, none⟩ = some (.string xi) := HX.out.1.2 0 (by simp)
        have hwl := HX.out.1.1
        clear hbl d0 d1
        obtain ⟨hbl, d0, d1⟩ := HTQ.out W1 HB.out
        by_cases he : yi = xi
        · have he2 := he.symm
          subst he2
          have he3 : (xi.toList == xi.toList) = true := by simp
          have HF : Hid (F = true) := hid_intro (HA.out.2.trans he3)
          go_wp2_with fail
          go_quiet (fail)
          obtain ⟨W2, hWn⟩ : ∃ Wn, Wn = W1.drewN nq := ⟨_, rfl⟩
          rw [← hWn]
          have HDW : Hid (Below W1.heap.size W1 W2) := hid_intro (by rw [hWn]; exact bdn (Below.refl _ _) _)
          clear hWn
          have HBn := hid_intro (HB.out.trans (HDW.out.mono HB.out.size))
          have HXn := hid_intro (HX.out.below HDW.out)
          clear HB HX HDW c0 hwl
          have HB := HBn
          have HX := HXn
          clear HBn HXn
          have c0 : W2.cell? ⟨w.heap.size, 0, none⟩ = some (.string xi) := HX.out.1.2 0 (by simp)
          have hwl := HX.out.1.1
          go_wp2_with fail
          try go_ret2
          exact (HP.out _ _).2 (.inl ⟨HF.out, rfl, HB.out⟩)
        · have hc2 : lt xi yi = true := by
            cases h : lt xi yi
            · exact absurd (toList_inj (bl_total hc1 (by unfold lt at h; exact h))) he
            · rfl
          have he3 : (yi.toList == xi.toList) = false := by simpa using fun e => he (toList_inj e)
          have HF : Hid (F = false) := hid_intro (HA.out.2.trans he3)
          have HI : Hid (R = L.take q ++ (⟨xi, xn⟩ : N) :: L.drop q) := hid_intro (HA.out.1 hc2)
          clear hc hc2 HA
          go_wp2_with fail
          go_quiet (fail)
          obtain ⟨W2, hWn⟩ : ∃ Wn, Wn = W1.drewN nq := ⟨_, rfl⟩
          rw [← hWn]
          have HDW : Hid (Below W1.heap.size W1 W2) := hid_intro (by rw [hWn]; exact bdn (Below.refl _ _) _)
          clear hWn
          have HBn := hid_intro (HB.out.trans (HDW.out.mono HB.out.size))
          have HXn := hid_intro (HX.out.below HDW.out)
          clear HB HX HDW c0 hwl
          have HB := HBn
          have HX := HXn
          clear HBn HXn
          have c0 : W2.cell? ⟨w.heap.size, 0, none⟩ = some (.string xi) := HX.out.1.2 0 (by simp)
          have hwl := HX.out.1.1
          clear hbl d0 d1
          have HE0 := hid_intro (own_empty W2 w.heap.size 58 2 HB.out.size)
          have hqc : (q : Int) ≤ (cap : Int) := by omega
          have hql : (q : Int) ≤ (len : Int) := by omega
          have HT1 := hid_intro (HT.out.below (HB.out.trans ((al W2 (.cells #[] 58)).mono HB.out.size)))
          clear c0 hwl
          go_wp2_with (at_builtin; refine wpList_append_own _ rfl _ _ 29 rfl w.heap.size 58 i0 (.agg #[.string ⟨#[]⟩, .int .i64 0]) 2 24 Tryz.underlying29 hi hz0 hz1 hz2 rfl (by decide) _ _ _ rfl HE0.out ⟨b, off, none⟩ q cap (cellsAll N.cells (L.take q)) rfl ?l1 ?d1 ?d2 ?d3 ?d4 (by have := HB.out.size; simp; omega) ?_)
          case l1 => rw [cellsAll_len N.len, List.length_take]; have := HL.out; omega
          case d1 => exact fun j u hj => by have h := rws_sub (i := 0) (n := q) N.len HT1.out j u (by simpa using hj); first | exact h | (rw [Addr.add_lit, Nat.zero_mul, Nat.add_zero] at h; exact h)
          case d2 => exact lis_one _
          case d3 => unfold maxLen; omega
          case d4 => omega
          intro v1 w6 hown hgrow hne
          have HO6 : Hid (w6.ownsRow w.heap.size 58 2 v1 q (cellsAll N.cells (L.take q))) := hid_intro (by first | exact hown | simpa using hown)
          have HB6 : Hid (Below w.heap.size w w6) := hid_intro ((HB.out.trans ((al W2 (.cells #[] 58)).mono HB.out.size)).grown hgrow (by have := HB.out.size; simp; omega) (fun c hc => by have := HX.out.1.1; simp [Value.ownBlock] at hc; omega))
          have HX6 : Hid (BlkW w.heap.size [.string xi, .int .i64 xn] w6) := hid_intro (blkw_grown (HX.out.below (al W2 (.cells #[] 58))) hgrow (fun e => by have := HX.out.1.1; simp [Value.ownBlock] at e; omega))
          clear hown hgrow hne HE0 HT1 HX HB
          have c0 : w6.cell? ⟨w.heap.size, 0, none⟩ = some (.string xi) := HX6.out.1.2 0 (by simp)
          have c1 : w6.cell? ⟨w.heap.size, 1, none⟩ = some (.int .i64 xn) := HX6.out.1.2 1 (by simp)
          have hwl := HX6.out.1.1
          go_wp2_with (at_builtin; refine wpList_append_own _ rfl _ _ 29 rfl w.heap.size 58 i0 (.agg #[.string ⟨#[]⟩, .int .i64 0]) 2 24 Tryz.underlying29 hi hz0 hz1 hz2 rfl (by decide) _ _ _ rfl (HO6.out.alloc _) ⟨w6.heap.size, 0, none⟩ 1 1 (N.cells ⟨xi, xn⟩) rfl rfl (two_cells _ _ _ _) (two_one _) ?d3 ?d4 (by have := HB6.out.size; simp; omega) ?_)
          case d3 => unfold maxLen; omega
          case d4 => omega
          intro v2 w7 hown hgrow hne
          have HO7 : Hid (w7.ownsRow w.heap.size 58 2 v2 (q + 1) (cellsAll N.cells (L.take q) ++ N.cells ⟨xi, xn⟩)) := hid_intro hown
          have HB7 : Hid (Below w.heap.size w w7) := hid_intro ((HB6.out.trans ((al w6 _).mono HB6.out.size)).grown hgrow (by have := HB6.out.size; simp; omega) (fun c hc => (HO6.out.lt c hc).1))
          have HT7 := hid_intro (HT.out.below HB7.out)
          clear hown hgrow hne c0 c1 hwl
          by_cases hcq : cap = q
          · obtain rfl : q = len := by omega
            have hcq2 := hcq.symm
            subst hcq2
            go_wp2_with (at_builtin; refine wpList_append_own _ rfl _ _ 29 rfl w.heap.size 58 i0 (.agg #[.string ⟨#[]⟩, .int .i64 0]) 2 24 Tryz.underlying29 hi hz0 hz1 hz2 rfl (by decide) _ _ _ rfl HO7.out ⟨b, off, none⟩ 0 0 [] rfl rfl (fun _ _ h => by simp at h) (fun _ h => by simp at h) (by unfold maxLen; omega) (by omega) HB7.out.size ?_)
            intro v3 w8 hown hgrow hne
            have HO8 : Hid (w8.ownsRow w.heap.size 58 2 v3 (L.take q ++ (⟨xi, xn⟩ : N) :: L.drop q).length (cellsAll N.cells (L.take q ++ (⟨xi, xn⟩ : N) :: L.drop q))) := hid_intro (by
              rw [ins_cells, ins_len2 _ _ _ (by have := HL.out; omega), ← HL.out]
              rw [List.drop_of_length_le (by have := HL.out; omega)]
              first | exact hown | simpa [cellsAll] using hown)
            have HB8 : Hid (Below w.heap.size w w8) := hid_intro (HB7.out.grown hgrow HB7.out.size (fun c hc => (HO7.out.lt c hc).1))
            clear hown hgrow hne
            rw [← HI.out] at HO8
            go_wp2_with fail

            try go_ret2
            exact (HP.out _ _).2 (.inr ⟨HF.out, ⟨_, rfl, HO8.out⟩, HB8.out⟩)
          · go_wp2_with (at_builtin; refine wpList_append_own _ rfl _ _ 29 rfl w.heap.size 58 i0 (.agg #[.string ⟨#[]⟩, .int .i64 0]) 2 24 Tryz.underlying29 hi hz0 hz1 hz2 rfl (by decide) _ _ _ rfl HO7.out ⟨b, off + q * 2, none⟩ (len - q) (cap - q) (cellsAll N.cells (L.drop q)) rfl ?l1 ?d5 ?d6 ?d7 ?d8 HB7.out.size ?_)
            case l1 => rw [cellsAll_len N.len, List.length_drop]; have := HL.out; omega
            case d5 => exact fun j u hj => rws_sub (i := q) (n := L.length - q) N.len HT7.out j u (by rw [List.take_of_length_le (by simp)]; exact hj)
            case d6 => exact lis_one _
            case d7 => unfold maxLen; omega
            case d8 => omega
            intro v3 w8 hown hgrow hne
            have HO8 : Hid (w8.ownsRow w.heap.size 58 2 v3 (L.take q ++ (⟨xi, xn⟩ : N) :: L.drop q).length (cellsAll N.cells (L.take q ++ (⟨xi, xn⟩ : N) :: L.drop q))) := hid_intro (by
              rw [ins_cells, ins_len2 _ _ _ (by have := HL.out; omega), ← HL.out]
              rw [show len + 1 = q + 1 + (len - q) by omega, List.append_assoc]
              exact hown)
            have HB8 : Hid (Below w.heap.size w w8) := hid_intro (HB7.out.grown hgrow HB7.out.size (fun c hc => (HO7.out.lt c hc).1))
            clear hown hgrow hne
            rw [← HI.out] at HO8
            go_wp2_with fail

            try go_ret2
            exact (HP.out _ _).2 (.inr ⟨HF.out, ⟨_, rfl, HO8.out⟩, HB8.out⟩)
      · have HQ2 : Hid (∀ j, j < q + 1 → lt (L.getD j N.zero).i xi = true) := hid_intro (fun j hj => by
          rcases Nat.lt_succ_iff_lt_or_eq.1 hj with h | rfl
          · exact HQ.out j h
          · exact hc)
        have hc1 := hc
        unfold lt at hc1
        generalize L.getD q N.zero = Y at *
        obtain ⟨yi, yn⟩ := Y
        dsimp only at hc1 hc HTQ
        obtain ⟨hbl, d0, d1⟩ := HTQ.out wr HB.out
        clear hc
        go_wp2_with fail
        go_quiet (fail)
        obtain ⟨W1, hWn⟩ : ∃ Wn, Wn = wr.drewN nq := ⟨_, rfl⟩
        rw [← hWn]
        have HDW : Hid (Below wr.heap.size wr W1) := hid_intro (by rw [hWn]; exact bdn (Below.refl _ _) _)
        clear hWn
        have HBn := hid_intro (HB.out.trans (HDW.out.mono HB.out.size))
        have HXn := hid_intro (HX.out.below HDW.out)
        clear HB HX HDW c0 hwl
        have HB := HBn
        have HX := HXn
        clear HBn HXn
        have c0 : W1.cell? ⟨w.heap.size, 0, none⟩ = some (.string xi) := HX.out.1.2 0 (by simp)
        have hwl := HX.out.1.1
        go_wp2_with fail
        go_roundw
        case rel => exact ⟨q + 1, by omega, by go_num, HB, HX, HQ2⟩
        case measure => simp [intOf]; omega
    · have hlt2 : ¬ (q : Int) < (len : Int) := by omega
      have he : q = L.length := by have := HL.out; omega
      have HI : Hid (R = L.take q ++ (⟨xi, xn⟩ : N) :: L.drop q) := hid_intro (by rw [(HEND.out (fun j hj => HQ.out j (by omega))).1, he]; simp)
      have HF : Hid (F = false) := hid_intro (HEND.out (fun j hj => HQ.out j (by omega))).2
      clear he
      go_wp2_with fail
      go_quiet (fail)
      obtain ⟨W1, hWn⟩ : ∃ Wn, Wn = wr.drewN nq := ⟨_, rfl⟩
      rw [← hWn]
      have HDW : Hid (Below wr.heap.size wr W1) := hid_intro (by rw [hWn]; exact bdn (Below.refl _ _) _)
      clear hWn
      have HBn := hid_intro (HB.out.trans (HDW.out.mono HB.out.size))
      have HXn := hid_intro (HX.out.below HDW.out)
      clear HB HX HDW c0 hwl
      have HB := HBn
      have HX := HXn
      clear HBn HXn
      have c0 : W1.cell? ⟨w.heap.size, 0, none⟩ = some (.string xi) := HX.out.1.2 0 (by simp)
      have hwl := HX.out.1.1
      go_wp2_with fail
      go_quiet (fail)
      obtain ⟨W2, hWn⟩ : ∃ Wn, Wn = W1.drewN nq := ⟨_, rfl⟩
      rw [← hWn]
      have HDW : Hid (Below W1.heap.size W1 W2) := hid_intro (by rw [hWn]; exact bdn (Below.refl _ _) _)
      clear hWn
      have HBn := hid_intro (HB.out.trans (HDW.out.mono HB.out.size))
      have HXn := hid_intro (HX.out.below HDW.out)
      clear HB HX HDW c0 hwl
      have HB := HBn
      have HX := HXn
      clear HBn HXn
      have c0 : W2.cell? ⟨w.heap.size, 0, none⟩ = some (.string xi) := HX.out.1.2 0 (by simp)
      have hwl := HX.out.1.1
      have HE0 := hid_intro (own_empty W2 w.heap.size 58 2 HB.out.size)
      have hqc : (q : Int) ≤ (cap : Int) := by omega
      have hql : (q : Int) ≤ (len : Int) := by omega
      have HT1 := hid_intro (HT.out.below (HB.out.trans ((al W2 (.cells #[] 58)).mono HB.out.size)))
      clear c0 hwl
      go_wp2_with (at_builtin; refine wpList_append_own _ rfl _ _ 29 rfl w.heap.size 58 i0 (.agg #[.string ⟨#[]⟩, .int .i64 0]) 2 24 Tryz.underlying29 hi hz0 hz1 hz2 rfl (by decide) _ _ _ rfl HE0.out ⟨b, off, none⟩ q cap (cellsAll N.cells (L.take q)) rfl ?l1 ?d1 ?d2 ?d3 ?d4 (by have := HB.out.size; simp; omega) ?_)
      case l1 => rw [cellsAll_len N.len, List.length_take]; have := HL.out; omega
      case d1 => exact fun j u hj => by have h := rws_sub (i := 0) (n := q) N.len HT1.out j u (by simpa using hj); first | exact h | (rw [Addr.add_lit, Nat.zero_mul, Nat.add_zero] at h; exact h)
      case d2 => exact lis_one _
      case d3 => unfold maxLen; omega
      case d4 => omega
      intro v1 w6 hown hgrow hne
      have HO6 : Hid (w6.ownsRow w.heap.size 58 2 v1 q (cellsAll N.cells (L.take q))) := hid_intro (by first | exact hown | simpa using hown)
      have HB6 : Hid (Below w.heap.size w w6) := hid_intro ((HB.out.trans ((al W2 (.cells #[] 58)).mono HB.out.size)).grown hgrow (by have := HB.out.size; simp; omega) (fun c hc => by have := HX.out.1.1; simp [Value.ownBlock] at hc; omega))
      have HX6 : Hid (BlkW w.heap.size [.string xi, .int .i64 xn] w6) := hid_intro (blkw_grown (HX.out.below (al W2 (.cells #[] 58))) hgrow (fun e => by have := HX.out.1.1; simp [Value.ownBlock] at e; omega))
      clear hown hgrow hne HE0 HT1 HX HB
      have c0 : w6.cell? ⟨w.heap.size, 0, none⟩ = some (.string xi) := HX6.out.1.2 0 (by simp)
      have c1 : w6.cell? ⟨w.heap.size, 1, none⟩ = some (.int .i64 xn) := HX6.out.1.2 1 (by simp)
      have hwl := HX6.out.1.1
      go_wp2_with (at_builtin; refine wpList_append_own _ rfl _ _ 29 rfl w.heap.size 58 i0 (.agg #[.string ⟨#[]⟩, .int .i64 0]) 2 24 Tryz.underlying29 hi hz0 hz1 hz2 rfl (by decide) _ _ _ rfl (HO6.out.alloc _) ⟨w6.heap.size, 0, none⟩ 1 1 (N.cells ⟨xi, xn⟩) rfl rfl (two_cells _ _ _ _) (two_one _) ?d3 ?d4 (by have := HB6.out.size; simp; omega) ?_)
      case d3 => unfold maxLen; omega
      case d4 => omega
      intro v2 w7 hown hgrow hne
      have HO7 : Hid (w7.ownsRow w.heap.size 58 2 v2 (q + 1) (cellsAll N.cells (L.take q) ++ N.cells ⟨xi, xn⟩)) := hid_intro hown
      have HB7 : Hid (Below w.heap.size w w7) := hid_intro ((HB6.out.trans ((al w6 _).mono HB6.out.size)).grown hgrow (by have := HB6.out.size; simp; omega) (fun c hc => (HO6.out.lt c hc).1))
      have HT7 := hid_intro (HT.out.below HB7.out)
      clear hown hgrow hne c0 c1 hwl
      by_cases hcq : cap = q
      · obtain rfl : q = len := by omega
        have hcq2 := hcq.symm
        subst hcq2
        go_wp2_with (at_builtin; refine wpList_append_own _ rfl _ _ 29 rfl w.heap.size 58 i0 (.agg #[.string ⟨#[]⟩, .int .i64 0]) 2 24 Tryz.underlying29 hi hz0 hz1 hz2 rfl (by decide) _ _ _ rfl HO7.out ⟨b, off, none⟩ 0 0 [] rfl rfl (fun _ _ h => by simp at h) (fun _ h => by simp at h) (by unfold maxLen; omega) (by omega) HB7.out.size ?_)
        intro v3 w8 hown hgrow hne
        have HO8 : Hid (w8.ownsRow w.heap.size 58 2 v3 (L.take q ++ (⟨xi, xn⟩ : N) :: L.drop q).length (cellsAll N.cells (L.take q ++ (⟨xi, xn⟩ : N) :: L.drop q))) := hid_intro (by
          rw [ins_cells, ins_len2 _ _ _ (by have := HL.out; omega), ← HL.out]
          rw [List.drop_of_length_le (by have := HL.out; omega)]
          first | exact hown | simpa [cellsAll] using hown)
        have HB8 : Hid (Below w.heap.size w w8) := hid_intro (HB7.out.grown hgrow HB7.out.size (fun c hc => (HO7.out.lt c hc).1))
        clear hown hgrow hne
        rw [← HI.out] at HO8
        go_wp2_with fail

        try go_ret2
        exact (HP.out _ _).2 (.inr ⟨HF.out, ⟨_, rfl, HO8.out⟩, HB8.out⟩)
      · go_wp2_with (at_builtin; refine wpList_append_own _ rfl _ _ 29 rfl w.heap.size 58 i0 (.agg #[.string ⟨#[]⟩, .int .i64 0]) 2 24 Tryz.underlying29 hi hz0 hz1 hz2 rfl (by decide) _ _ _ rfl HO7.out ⟨b, off + q * 2, none⟩ (len - q) (cap - q) (cellsAll N.cells (L.drop q)) rfl ?l1 ?d5 ?d6 ?d7 ?d8 HB7.out.size ?_)
        case l1 => rw [cellsAll_len N.len, List.length_drop]; have := HL.out; omega
        case d5 => exact fun j u hj => rws_sub (i := q) (n := L.length - q) N.len HT7.out j u (by rw [List.take_of_length_le (by simp)]; exact hj)
        case d6 => exact lis_one _
        case d7 => unfold maxLen; omega
        case d8 => omega
        intro v3 w8 hown hgrow hne
        have HO8 : Hid (w8.ownsRow w.heap.size 58 2 v3 (L.take q ++ (⟨xi, xn⟩ : N) :: L.drop q).length (cellsAll N.cells (L.take q ++ (⟨xi, xn⟩ : N) :: L.drop q))) := hid_intro (by
          rw [ins_cells, ins_len2 _ _ _ (by have := HL.out; omega), ← HL.out]
          rw [show len + 1 = q + 1 + (len - q) by omega, List.append_assoc]
          exact hown)
        have HB8 : Hid (Below w.heap.size w w8) := hid_intro (HB7.out.grown hgrow HB7.out.size (fun c hc => (HO7.out.lt c hc).1))
        clear hown hgrow hne
        rw [← HI.out] at HO8
        go_wp2_with fail

        try go_ret2
        exact (HP.out _ _).2 (.inr ⟨HF.out, ⟨_, rfl, HO8.out⟩, HB8.out⟩)
end NetR
end Go.Proofs.YtcilbmhkhllmjaaGreatDoor
namespace Go.Proofs.YtcilbmhkhllmjaaGreatDoor
open Go.ChangeShapes Go.WideShapes Go.ChangeAt Go.RowKit
set_option linter.unusedVariables false
namespace BilR
open LtR WinR LinR
open RowG (getD_mem)
open NetR (put fnd nlt addN)
/-- The places of an account's windows, of the first k. -/
def ixs (a : ByteArray) (ws : List Wd) (k : Nat) : List Nat := (List.range k).filter (fun j => ownW a (ws.getD j Wd.zero))
def wm (ws : List Wd) (j : Nat) : ByteArray := (ws.getD j Wd.zero).m
def mk (ws : List Wd) (j : Nat) : N := ⟨wm ws j, (j : Int)⟩
/-- The places in the order of their meters. -/
def jx (a : ByteArray) (ws : List Wd) (k : Nat) : List Nat := srt (wm ws) (ixs a ws k)
def nms (a : ByteArray) (ws : List Wd) (k : Nat) : List N := (jx a ws k).map (mk ws)
theorem ixs_more (a : ByteArray) (ws : List Wd) (k : Nat) : ixs a ws (k + 1) = ixs a ws k ++ (if ownW a (ws.getD k Wd.zero) = true then [k] else []) := by
  unfold ixs
  rw [List.range_succ, List.filter_append]
  congr 1
  rw [List.filter_cons]
  split <;> simp_all
theorem ixs_map (a : ByteArray) (ws : List Wd) : (ixs a ws ws.length).map (fun j => ws.getD j Wd.zero) = ws.filter (ownW a) := by
  have e : ws = (List.range ws.length).map (fun j => ws.getD j Wd.zero) := by
    refine List.ext_getElem (by simp) (fun i h1 h2 => ?_)
    simp [List.getD, h1]
  conv => rhs; rw [e]
  rw [List.filter_map]
  rfl
theorem ixs_lt {a : ByteArray} {ws : List Wd} {k j : Nat} (h : j ∈ ixs a ws k) : j < k ∧ ownW a (ws.getD j Wd.zero) = true := by
  unfold ixs at h
  obtain ⟨h1, h2⟩ := List.mem_filter.1 h
  exact ⟨List.mem_range.1 h1, h2⟩
theorem jx_lt {a : ByteArray} {ws : List Wd} {k j : Nat} (h : j ∈ jx a ws k) : j < k ∧ ownW a (ws.getD j Wd.zero) = true := ixs_lt ((srt_perm _).mem_iff.1 h)
theorem jx_wds (a : ByteArray) (ws : List Wd) : (jx a ws ws.length).map (fun j => ws.getD j Wd.zero) = srt Wd.m (ws.filter (ownW a)) := by
  rw [← ixs_map]
  exact srt_map (f := Wd.m) (fun j => ws.getD j Wd.zero) (ixs a ws ws.length)
theorem nms_eq (a : ByteArray) (ws : List Wd) (k : Nat) : nms a ws k = srt N.i ((ixs a ws k).map (mk ws)) := srt_map (f := N.i) (mk ws) (ixs a ws k)
theorem nms_other {a : ByteArray} {ws : List Wd} {k : Nat} (h : ownW a (ws.getD k Wd.zero) = false) : nms a ws (k + 1) = nms a ws k := by
  rw [nms_eq, nms_eq, ixs_more, h]; simp
theorem put_insB : ∀ {L : List N} {x : N}, fnd L x.i = false → put L x = insB N.i x L
  | [], x, _ => rfl
  | y :: l, x, h => by
    unfold put NetR.ins
    unfold NetR.fnd at h
    unfold insB
    cases q : lt y.i x.i
    · rw [q, cond_false] at h
      have q2 : nlt y x = false := q
      cases q3 : lt x.i y.i
      · have := lt_total q q3
        rw [this] at h; simp at h
      · have q4 : nlt x y = true := q3
        simp [q2, q4]
    · rw [q, cond_true] at h
      have q2 : nlt y x = true := q
      rw [if_pos q2, if_pos rfl]
      have := put_insB h
      unfold put at this
      rw [this]
theorem nms_own {a : ByteArray} {ws : List Wd} {k : Nat} (h : ownW a (ws.getD k Wd.zero) = true) (hf : fnd (nms a ws k) (wm ws k) = false) : put (nms a ws k) (mk ws k) = nms a ws (k + 1) := by
  rw [put_insB (x := mk ws k) hf, nms_eq, nms_eq, ixs_more, if_pos h, List.map_append, List.map_cons, List.map_nil, srt_snoc]
theorem fnd_some : ∀ {L : List N} {x : ByteArray}, fnd L x = true → ∃ y ∈ L, y.i = x
  | y :: l, x, h => by
    unfold NetR.fnd at h
    cases q : lt y.i x
    · rw [q, cond_false] at h
      exact ⟨y, List.mem_cons_self .., toList_inj (by simpa using h)⟩
    · rw [q, cond_true] at h
      obtain ⟨z, hz, e⟩ := fnd_some h
      exact ⟨z, List.mem_cons_of_mem _ hz, e⟩
theorem lt_irr (x : ByteArray) : lt x x = false := by
  cases h : lt x x
  · rfl
  · have := lt_asymm h; rw [h] at this; cases this
theorem fnd_none : ∀ {L : List N} {x : ByteArray}, Ris N.i L → fnd L x = false → ∀ y ∈ L, y.i ≠ x
  | y :: l, x, hR, h, z, hz, e => by
    obtain ⟨h1, h2⟩ := List.pairwise_cons.1 hR
    unfold NetR.fnd at h
    cases q : lt y.i x
    · rw [q, cond_false] at h
      rcases List.mem_cons.1 hz with rfl | hz
      · rw [e] at h; simp at h
      · have := h1 z hz
        rw [e] at this; rw [this] at q; cases q
    · rw [q, cond_true] at h
      rcases List.mem_cons.1 hz with rfl | hz
      · rw [e, lt_irr] at q; cases q
      · exact fnd_none h2 h z hz e
/-- No meter twice among the first k. -/
def NoTwo (a : ByteArray) (ws : List Wd) (k : Nat) : Prop := ((ixs a ws k).map (wm ws)).Nodup
theorem nms_ris {a : ByteArray} {ws : List Wd} {k : Nat} (h : NoTwo a ws k) : Ris N.i (nms a ws k) := by
  rw [nms_eq]
  refine srt_ris _ ?_
  rw [List.map_map]
  exact h
theorem noTwo_other {a : ByteArray} {ws : List Wd} {k : Nat} (h : ownW a (ws.getD k Wd.zero) = false) (hn : NoTwo a ws k) : NoTwo a ws (k + 1) := by
  unfold NoTwo at hn ⊢
  rw [ixs_more, h]; simpa using hn
theorem noTwo_own {a : ByteArray} {ws : List Wd} {k : Nat} (h : ownW a (ws.getD k Wd.zero) = true) (hf : fnd (nms a ws k) (wm ws k) = false) (hn : NoTwo a ws k) : NoTwo a ws (k + 1) := by
  unfold NoTwo
  rw [ixs_more, if_pos h, List.map_append, List.nodup_append]
  refine ⟨hn, by simp, fun x hx y hy => ?_⟩
  simp only [List.map_cons, List.map_nil, List.mem_singleton] at hy
  subst hy
  obtain ⟨j, hj, rfl⟩ := List.mem_map.1 hx
  exact fnd_none (nms_ris hn) hf (mk ws j) (List.mem_map.2 ⟨j, (srt_perm _).mem_iff.2 hj, rfl⟩)
/-- One meter twice, so the list has it. -/
theorem two_of {a : ByteArray} {ws : List Wd} {k : Nat} (hk : k < ws.length) (h : ownW a (ws.getD k Wd.zero) = true) (hf : fnd (nms a ws k) (wm ws k) = true) : ¬ ((ws.filter (ownW a)).map Wd.m).Nodup := by
  intro hn
  obtain ⟨y, hy, e⟩ := fnd_some hf
  obtain ⟨j, hj, rfl⟩ := List.mem_map.1 hy
  obtain ⟨h1, h2⟩ := jx_lt hj
  have hp : ((List.range ws.length).filter (fun j => ownW a (ws.getD j Wd.zero))).Pairwise (fun i j => wm ws i ≠ wm ws j) := by
    rw [← ixs_map, List.map_map] at hn
    exact List.pairwise_map.1 hn
  have hs : [j, k].Sublist ((List.range ws.length).filter (fun j => ownW a (ws.getD j Wd.zero))) := by
    have h3 : [j, k].Sublist (List.range ws.length) := by
      have h4 : ([j] ++ [k]).Sublist (List.range k ++ (List.range (ws.length - k)).map (k + ·)) := by
        refine List.Sublist.append (List.singleton_sublist.2 (List.mem_range.2 h1)) (List.singleton_sublist.2 (List.mem_map.2 ⟨0, List.mem_range.2 (by omega), by omega⟩))
      rw [← List.range_add, show k + (ws.length - k) = ws.length by omega] at h4
      exact h4
    have := h3.filter (fun j => ownW a (ws.getD j Wd.zero))
    rwa [show [j, k].filter (fun j => ownW a (ws.getD j Wd.zero)) = [j, k] from List.filter_eq_self.2 (fun z hz => by rcases List.mem_cons.1 hz with rfl | hz; exact h2; rcases List.mem_cons.1 hz with rfl | hz; exact h; cases hz)] at this
  have := hp.sublist hs
  simp only [List.pairwise_cons, List.mem_singleton, forall_eq] at this
  exact this.1 e
theorem noTwo_all {a : ByteArray} {ws : List Wd} (h : NoTwo a ws ws.length) : ((ws.filter (ownW a)).map Wd.m).Nodup := by
  rw [← ixs_map, List.map_map]; exact h
end BilR
end Go.Proofs.YtcilbmhkhllmjaaGreatDoor
