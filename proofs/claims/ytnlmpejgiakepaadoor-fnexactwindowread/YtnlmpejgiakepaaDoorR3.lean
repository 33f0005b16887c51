/-
  A text put among others in its place, the model's way. The conditions: at most 1048575 texts, in a list that has room for them.
  An hour added to others in its place, the model's way. The conditions: at most 1048575 hours, in a list that has room for them; sums that are far from running over.
  Two rising lists of tags laid into one, the program's way. The conditions: at most 1048575 of both together; a list that is nil has no room, any other room for what it holds.
  Small parts of joining windows: how two numbers stand, two of one hour, the sums of both. The conditions: sums that are far from running over.
-/
import Derived.Deep.QuietTactic
import Derived.Laws.AppendOwnNone
import Derived.Laws.EntriesVeiled
import Derived.Test.YtnlmpejgiakepaaDoorR2
namespace Go.Proofs.YtnlmpejgiakepaaDoor
open Go.ChangeShapes Go.WideShapes Go.ChangeAt Go.RowKit
set_option linter.unusedVariables false
namespace WinR
open RowG (MadeG Rws cellsAll cellsAll_len cellsAll_get own_made take_more getD_mem)
open LtR
theorem al (w : World) (o : Obj) : Below w.heap.size w (w.alloc o) := (Below.refl _ _).alloc (Nat.le_refl _) _
theorem own_empty (w : World) (base e size : Nat) (hb : base ≤ w.heap.size) : (w.alloc (.cells #[] e)).ownsRow base e size (.slice (some ⟨w.heap.size, 0, none⟩) 0 0) 0 [] :=
  World.ownsRow_made w #[] 0 hb (by unfold maxLen; omega) (by simp)
theorem rws_sub {α : Type} {k : Nat} {cells : α → List Value} {z : α} {b off i n : Nat} {xs : List α} {w : World} (hk : ∀ x, (cells x).length = k) (h : Rws k cells z (some ⟨b, off, none⟩) xs w) : ∀ j u, (cellsAll cells ((xs.drop i).take n))[j]? = some u → w.cell? ((⟨b, off + i * k, none⟩ : Addr).add j) = some u := by
  intro j u hj
  have hlt := (List.getElem?_eq_some_iff.1 hj).1
  rw [cellsAll_len hk] at hlt
  have hk0 : 0 < k := by
    rcases Nat.eq_zero_or_pos k with e | e
    · rw [e, Nat.mul_zero] at hlt; omega
    · exact e
  obtain ⟨d, r, rfl, hr⟩ : ∃ d r, j = d * k + r ∧ r < k := ⟨j / k, j % k, by rw [Nat.mul_comm]; exact (Nat.div_add_mod j k).symm, Nat.mod_lt _ hk0⟩
  have hi : d < ((xs.drop i).take n).length := Nat.lt_of_mul_lt_mul_right (a := k) (Nat.lt_of_le_of_lt (Nat.le_add_right _ _) hlt)
  have hi2 : i + d < xs.length := by simp at hi; omega
  have hn : d < n := by simp at hi; omega
  have eg : ((xs.drop i).take n).getD d z = xs.getD (i + d) z := by simp [List.getD, hn]
  rw [cellsAll_get (z := z) hk _ d r hi hr, eg] at hj
  rcases h with h0 | ⟨b', off', he, _, hc⟩
  · omega
  · simp only [Option.some.injEq, Addr.mk.injEq, and_true] at he
    obtain ⟨rfl, rfl⟩ := he
    have := hc (i + d) hi2 r hr
    rw [Addr.add_lit, show off + i * k + (d * k + r) = off + (i + d) * k + r by rw [Nat.add_mul]; omega, this]
    exact hj
theorem t_one (ts : List ByteArray) : ∀ v ∈ cellsAll tcells ts, v.oneCell' = true := by
  intro v hv
  simp only [cellsAll, List.mem_flatMap, tcells, List.mem_cons, List.not_mem_nil, or_false] at hv
  obtain ⟨x, _, rfl⟩ := hv
  rfl
theorem ins_cells {α : Type} {cells : α → List Value} (a : List α) (x : α) (b : List α) : cellsAll cells (a ++ x :: b) = cellsAll cells a ++ cells x ++ cellsAll cells b := by simp [cellsAll]
theorem ins_len {α : Type} (ts : List α) (q : Nat) (t : α) (h : q ≤ ts.length) : (ts.take q ++ t :: ts.drop q).length = ts.length + 1 := by simp; omega
theorem own_some {α : Type} {k : Nat} {cells : α → List Value} {z : α} {w : World} {base T : Nat} {v : Value} {xs : List α} (hk : ∀ x, (cells x).length = k) (h : w.ownsRow base T k v xs.length (cellsAll cells xs)) (hn : xs.length ≠ 0) : ∃ b' o' c', v = .slice (some ⟨b', o', none⟩) xs.length c' ∧ Rws k cells z (some ⟨b', o', none⟩) xs w ∧ xs.length ≤ c' ∧ c' ≤ maxLen ∧ base ≤ b' := by
  obtain ⟨ao, cp, e, hm⟩ := own_made (z := z) hk h
  rcases h.2 with ⟨h0, h1⟩ | ⟨g, cap, cur, hv, hbb, _, h1, h2, _⟩
  · exact absurd h1 hn
  · rw [hv] at e
    simp only [Value.slice.injEq] at e
    obtain ⟨rfl, _, rfl⟩ := e
    exact ⟨g, 0, cap, hv, hm.rws, h1, h2, hbb⟩
section
variable {α : Type} {lt : α → α → Bool} {f : α → α → α} {z : α}
theorem ins_end : ∀ (xs : List α) (y : α), (∀ j, j < xs.length → lt (xs.getD j z) y = true) → ins lt f xs y = xs ++ [y]
  | [], y, _ => rfl
  | x :: xs, y, h => by
    have h0 : lt x y = true := by simpa using h 0 (by simp)
    rw [ins, if_pos h0, ins_end xs y (fun j hj => by simpa using h (j + 1) (by simpa using hj))]
    rfl
theorem ins_at : ∀ (xs : List α) (y : α) (q : Nat), q < xs.length → (∀ j, j < q → lt (xs.getD j z) y = true) → lt (xs.getD q z) y = false →
    (lt y (xs.getD q z) = true → ins lt f xs y = xs.take q ++ y :: xs.drop q) ∧ (lt y (xs.getD q z) = false → ins lt f xs y = xs.take q ++ f (xs.getD q z) y :: xs.drop (q + 1))
  | [], y, q, hq, _, _ => by simp at hq
  | x :: xs, y, 0, hq, _, h1 => by
    have h2 : lt x y = false := by simpa using h1
    constructor
    · intro h3
      have h4 : lt y x = true := by simpa using h3
      rw [ins, if_neg (by simp [h2]), if_pos h4]
      rfl
    · intro h3
      have h4 : lt y x = false := by simpa using h3
      rw [ins, if_neg (by simp [h2]), if_neg (by simp [h4])]
      simp
  | x :: xs, y, q + 1, hq, h0, h1 => by
    have h2 : lt x y = true := by simpa using h0 0 (by omega)
    have ih := ins_at xs y q (by simpa using hq) (fun j hj => by simpa using h0 (j + 1) (by omega)) (by simpa using h1)
    constructor
    · intro h3
      rw [ins, if_pos h2, ih.1 (by simpa using h3)]
      simp
    · intro h3
      rw [ins, if_pos h2, ih.2 (by simpa using h3)]
      simp
end
theorem take_drop_get : ∀ (ts : List ByteArray) (q : Nat), q < ts.length → ts.take q ++ ts.getD q tz :: ts.drop (q + 1) = ts
  | [], q, h => by simp at h
  | x :: xs, 0, _ => by simp
  | x :: xs, q + 1, h => by
    have := take_drop_get xs q (by simpa using h)
    simpa using this
/-- Of two texts that are alike either. -/
def fstT (x y : ByteArray) : ByteArray := x
set_option maxRecDepth 100000 in
set_option maxHeartbeats 8000000 in
theorem stext (b off cap : Nat) (ts : List ByteArray) (t : ByteArray) (w : World) (hl : ts.length ≤ 1048575) (hcap : ts.length ≤ cap) (hcm : cap ≤ maxLen) (hT : Tgs (some ⟨b, off, none⟩) ts w) :
    Calls Tryd.prog 49 #[.slice (some ⟨b, off, none⟩) ts.length cap, .string t] w fun e w' => ∃ b' o' c', e = .returned (.slice (some ⟨b', o', none⟩) (ins lt fstT ts t).length c') ∧ Tgs (some ⟨b', o', none⟩) (ins lt fstT ts t) w' ∧ (ins lt fstT ts t).length ≤ c' ∧ c' ≤ maxLen ∧ (b' = b ∨ w.heap.size ≤ b') ∧ Below w.heap.size w w' := by
  obtain ⟨i0, hi, hz0, hz1, hz2⟩ := info_parts infoT
  have HT := hid_intro hT
  obtain ⟨len, hlen⟩ : ∃ len, len = ts.length := ⟨_, rfl⟩
  rw [← hlen] at hl hcap ⊢
  have HL := hid_intro hlen
  have HEND : Hid ((∀ j, j < ts.length → lt (ts.getD j tz) t = true) → ins lt fstT ts t = ts ++ [t]) := hid_intro (ins_end ts t)
  have HAT : Hid (∀ q, q < ts.length → (∀ j, j < q → lt (ts.getD j tz) t = true) → lt (ts.getD q tz) t = false → (lt t (ts.getD q tz) = true → ins lt fstT ts t = ts.take q ++ t :: ts.drop q) ∧ (lt t (ts.getD q tz) = false → ins lt fstT ts t = ts.take q ++ fstT (ts.getD q tz) t :: ts.drop (q + 1))) := hid_intro (fun q => ins_at ts t q)
  generalize ins lt fstT ts t = R at *
  unfold maxLen at hcm
  clear hT hlen
  go_enter Tryd.func49, Tryd.ntmps49
  go_wp2_with fail
  go_loopw [5] (fun zv wr => ∃ q : Nat, q ≤ len ∧ zv = .int .i64 (q : Int) ∧ w = wr ∧ Hid (∀ j, j < q → lt (ts.getD j tz) t = true)) (fun zv _ => len - (intOf zv).toNat)
  case atStart => exact ⟨0, by omega, rfl, rfl, hid_intro (fun j hj => absurd hj (by omega))⟩
  case round =>
    obtain ⟨q, hq, rfl, hwr, HQ⟩ := hrel
    subst hwr
    by_cases hlt : q < len
    · have hlt2 : (q : Int) < (len : Int) := by omega
      have hqs : q < ts.length := by have := HL.out; omega
      obtain ⟨b0, off0, he0, hbl, c0⟩ := HT.out.at q hqs
      simp only [Option.some.injEq, Addr.mk.injEq, and_true] at he0
      obtain ⟨rfl, rfl⟩ := he0
      cases hc : lt (ts.getD q tz) t
      · have HA := hid_intro (HAT.out q hqs HQ.out hc)
        obtain ⟨Y, hY⟩ : ∃ Y, Y = ts.getD q tz := ⟨_, rfl⟩
        have HY := hid_intro hY
        rw [← hY] at HA hc c0
        clear hY
        have hc1 := hc
        unfold lt at hc1
        by_cases he : Y = t
        · subst he
          have hins : R = ts := by
            have h := HA.out.2 (by unfold lt; exact bl_irrefl _)
            unfold fstT at h
            rw [h, HY.out]
            exact take_drop_get ts q hqs
          subst hins
          have he3 : (Y.toList == Y.toList) = true := by simp
          go_wp2_with fail
          go_ret
          exact ⟨b, off, cap, by rw [HL.out]; rfl, HT.out, by have := HL.out; omega, by unfold maxLen; omega, .inl rfl, Below.refl _ _⟩
        · have hc2 : lt t Y = true := by
            cases h : lt t Y
            · exact absurd (toList_inj (bl_total hc1 (by unfold lt at h; exact h))) he
            · rfl
          have hins := HA.out.1 hc2
          have he3 : (Y.toList == t.toList) = false := by simpa using fun e => he (toList_inj e)
          clear HA hc hc2
          have HI := hid_intro hins
          have HE0 := hid_intro (own_empty w w.heap.size 9 1 (Nat.le_refl _))
          have hqc : (q : Int) ≤ (cap : Int) := by omega
          have hql : (q : Int) ≤ (len : Int) := by omega
          have HT1 := hid_intro (HT.out.below (al w (.cells #[] 9)))
          clear hins
          go_wp2_with (at_builtin; refine wpList_append_own _ rfl _ _ 22 rfl w.heap.size 9 i0 (.string ⟨#[]⟩) 1 16 Tryd.underlying22 hi hz0 hz1 hz2 rfl (by decide) _ _ _ rfl HE0.out ⟨b, off, none⟩ q cap (cellsAll tcells (ts.take q)) rfl ?l1 ?d1 ?d2 ?d3 ?d4 (by simp) ?_)
          case l1 => rw [cellsAll_len t_len, List.length_take]; have := HL.out; omega
          case d1 => exact fun j u hj => by have h := rws_sub (i := 0) (n := q) t_len HT1.out j u (by simpa using hj); first | exact h | (rw [Addr.add_lit, Nat.zero_mul, Nat.add_zero] at h; exact h)
          case d2 => exact t_one _
          case d3 => unfold maxLen; omega
          case d4 => omega
          intro v1 w6 hown hgrow hne
          have HO6 : Hid (w6.ownsRow w.heap.size 9 1 v1 q (cellsAll tcells (ts.take q))) := hid_intro (by first | exact hown | simpa using hown)
          have HB6 : Hid (Below w.heap.size w w6) := hid_intro ((al w _).grown hgrow (by simp) (fun c hc => by simp [Value.ownBlock] at hc; omega))
          clear hown hgrow hne HE0 HT1
          go_wp2_with (at_builtin; refine wpList_append_own _ rfl _ _ 22 rfl w.heap.size 9 i0 (.string ⟨#[]⟩) 1 16 Tryd.underlying22 hi hz0 hz1 hz2 rfl (by decide) _ _ _ rfl (HO6.out.alloc _) ⟨w6.heap.size, 0, none⟩ 1 1 [.string t] rfl rfl ?d1 ?d2 ?d3 ?d4 (by have := HB6.out.size; simp; omega) ?_)
          case d1 => exact one_cell _ _ _
          case d2 => exact one_one _
          case d3 => unfold maxLen; omega
          case d4 => omega
          intro v2 w7 hown hgrow hne
          have HO7 : Hid (w7.ownsRow w.heap.size 9 1 v2 (q + 1) (cellsAll tcells (ts.take q) ++ [.string t])) := hid_intro hown
          have HB7 : Hid (Below w.heap.size w w7) := hid_intro ((HB6.out.trans ((al w6 _).mono HB6.out.size)).grown hgrow (by have := HB6.out.size; simp; omega) (fun c hc => (HO6.out.lt c hc).1))
          have HT7 := hid_intro (HT.out.below HB7.out)
          clear hown hgrow hne
          by_cases hcq : cap = q
          · obtain rfl : q = len := by omega
            have hcq2 := hcq.symm
            subst hcq2
            go_wp2_with (at_builtin; refine wpList_append_own _ rfl _ _ 22 rfl w.heap.size 9 i0 (.string ⟨#[]⟩) 1 16 Tryd.underlying22 hi hz0 hz1 hz2 rfl (by decide) _ _ _ rfl HO7.out ⟨b, off, none⟩ 0 0 [] rfl rfl (fun _ _ h => by simp at h) (fun _ h => by simp at h) (by unfold maxLen; omega) (by omega) HB7.out.size ?_)
            intro v3 w8 hown hgrow hne
            have HO8 : Hid (w8.ownsRow w.heap.size 9 1 v3 (ts.take q ++ t :: ts.drop q).length (cellsAll tcells (ts.take q ++ t :: ts.drop q))) := hid_intro (by
              rw [ins_cells, ins_len _ _ _ (by have := HL.out; omega), ← HL.out, List.drop_of_length_le (by have := HL.out; omega)]
              first | exact hown | simpa [cellsAll, tcells] using hown)
            have HB8 : Hid (Below w.heap.size w w8) := hid_intro (HB7.out.grown hgrow HB7.out.size (fun c hc => (HO7.out.lt c hc).1))
            clear hown hgrow hne
            rw [← HI.out] at HO8
            obtain ⟨b', o', c', rfl, m1, m2, m3⟩ := own_some (z := tz) t_len HO8.out (by rw [HI.out]; simp)
            go_wp2_with fail
            go_ret
            exact ⟨b', o', c', rfl, m1, m2, m3.1, .inr (by have := m3.2; omega), HB8.out⟩
          · go_wp2_with (at_builtin; refine wpList_append_own _ rfl _ _ 22 rfl w.heap.size 9 i0 (.string ⟨#[]⟩) 1 16 Tryd.underlying22 hi hz0 hz1 hz2 rfl (by decide) _ _ _ rfl HO7.out ⟨b, off + q, none⟩ (len - q) (cap - q) (cellsAll tcells (ts.drop q)) rfl ?l1 ?d5 ?d6 ?d7 ?d8 HB7.out.size ?_)
            case l1 => rw [cellsAll_len t_len, List.length_drop]; have := HL.out; omega
            case d5 => exact fun j u hj => by have := rws_sub (i := q) (n := ts.length - q) t_len HT7.out j u (by rw [List.take_of_length_le (by simp)]; exact hj); rw [Nat.mul_one] at this; exact this
            case d6 => exact t_one _
            case d7 => unfold maxLen; omega
            case d8 => omega
            intro v3 w8 hown hgrow hne
            have HO8 : Hid (w8.ownsRow w.heap.size 9 1 v3 (ts.take q ++ t :: ts.drop q).length (cellsAll tcells (ts.take q ++ t :: ts.drop q))) := hid_intro (by
              rw [ins_cells, ins_len _ _ _ (by have := HL.out; omega), ← HL.out, show len + 1 = q + 1 + (len - q) by omega]
              rw [List.append_assoc]
              exact hown)
            have HB8 : Hid (Below w.heap.size w w8) := hid_intro (HB7.out.grown hgrow HB7.out.size (fun c hc => (HO7.out.lt c hc).1))
            clear hown hgrow hne
            rw [← HI.out] at HO8
            obtain ⟨b', o', c', rfl, m1, m2, m3⟩ := own_some (z := tz) t_len HO8.out (by rw [HI.out]; simp)
            go_wp2_with fail
            go_ret
            exact ⟨b', o', c', rfl, m1, m2, m3.1, .inr (by have := m3.2; omega), HB8.out⟩
      · have HQ2 : Hid (∀ j, j < q + 1 → lt (ts.getD j tz) t = true) := hid_intro (fun j hj => by
          rcases Nat.lt_succ_iff_lt_or_eq.1 hj with h | rfl
          · exact HQ.out j h
          · exact hc)
        have hc1 := hc
        unfold lt at hc1
        generalize ts.getD q tz = Y at *
        clear hc
        go_wp2_with fail
        go_roundw
        case rel => exact ⟨q + 1, by omega, by go_num, by first | rfl | trivial, HQ2⟩
        case measure => simp [intOf]; omega
    · have hlt2 : ¬ (q : Int) < (len : Int) := by omega
      have hins : R = ts.take q ++ t :: ts.drop q := by
        have e : q = ts.length := by have := HL.out; omega
        rw [HEND.out (fun j hj => HQ.out j (by omega)), e]
        simp
      have HI := hid_intro hins
      have HE0 := hid_intro (own_empty w w.heap.size 9 1 (Nat.le_refl _))
      have hqc : (q : Int) ≤ (cap : Int) := by omega
      have hql : (q : Int) ≤ (len : Int) := by omega
      have HT1 := hid_intro (HT.out.below (al w (.cells #[] 9)))
      clear hins
      go_wp2_with (at_builtin; refine wpList_append_own _ rfl _ _ 22 rfl w.heap.size 9 i0 (.string ⟨#[]⟩) 1 16 Tryd.underlying22 hi hz0 hz1 hz2 rfl (by decide) _ _ _ rfl HE0.out ⟨b, off, none⟩ q cap (cellsAll tcells (ts.take q)) rfl ?l1 ?d1 ?d2 ?d3 ?d4 (by simp) ?_)
      case l1 => rw [cellsAll_len t_len, List.length_take]; have := HL.out; omega
      case d1 => exact fun j u hj => by have h := rws_sub (i := 0) (n := q) t_len HT1.out j u (by simpa using hj); first | exact h | (rw [Addr.add_lit, Nat.zero_mul, Nat.add_zero] at h; exact h)
      case d2 => exact t_one _
      case d3 => unfold maxLen; omega
      case d4 => omega
      intro v1 w6 hown hgrow hne
      have HO6 : Hid (w6.ownsRow w.heap.size 9 1 v1 q (cellsAll tcells (ts.take q))) := hid_intro (by first | exact hown | simpa using hown)
      have HB6 : Hid (Below w.heap.size w w6) := hid_intro ((al w _).grown hgrow (by simp) (fun c hc => by simp [Value.ownBlock] at hc; omega))
      clear hown hgrow hne HE0 HT1
      go_wp2_with (at_builtin; refine wpList_append_own _ rfl _ _ 22 rfl w.heap.size 9 i0 (.string ⟨#[]⟩) 1 16 Tryd.underlying22 hi hz0 hz1 hz2 rfl (by decide) _ _ _ rfl (HO6.out.alloc _) ⟨w6.heap.size, 0, none⟩ 1 1 [.string t] rfl rfl ?d1 ?d2 ?d3 ?d4 (by have := HB6.out.size; simp; omega) ?_)
      case d1 => exact one_cell _ _ _
      case d2 => exact one_one _
      case d3 => unfold maxLen; omega
      case d4 => omega
      intro v2 w7 hown hgrow hne
      have HO7 : Hid (w7.ownsRow w.heap.size 9 1 v2 (q + 1) (cellsAll tcells (ts.take q) ++ [.string t])) := hid_intro hown
      have HB7 : Hid (Below w.heap.size w w7) := hid_intro ((HB6.out.trans ((al w6 _).mono HB6.out.size)).grown hgrow (by have := HB6.out.size; simp; omega) (fun c hc => (HO6.out.lt c hc).1))
      have HT7 := hid_intro (HT.out.below HB7.out)
      clear hown hgrow hne
      by_cases hcq : cap = q
      · obtain rfl : q = len := by omega
        have hcq2 := hcq.symm
        subst hcq2
        go_wp2_with (at_builtin; refine wpList_append_own _ rfl _ _ 22 rfl w.heap.size 9 i0 (.string ⟨#[]⟩) 1 16 Tryd.underlying22 hi hz0 hz1 hz2 rfl (by decide) _ _ _ rfl HO7.out ⟨b, off, none⟩ 0 0 [] rfl rfl (fun _ _ h => by simp at h) (fun _ h => by simp at h) (by unfold maxLen; omega) (by omega) HB7.out.size ?_)
        intro v3 w8 hown hgrow hne
        have HO8 : Hid (w8.ownsRow w.heap.size 9 1 v3 (ts.take q ++ t :: ts.drop q).length (cellsAll tcells (ts.take q ++ t :: ts.drop q))) := hid_intro (by
          rw [ins_cells, ins_len _ _ _ (by have := HL.out; omega), ← HL.out, List.drop_of_length_le (by have := HL.out; omega)]
          first | exact hown | simpa [cellsAll, tcells] using hown)
        have HB8 : Hid (Below w.heap.size w w8) := hid_intro (HB7.out.grown hgrow HB7.out.size (fun c hc => (HO7.out.lt c hc).1))
        clear hown hgrow hne
        rw [← HI.out] at HO8
        obtain ⟨b', o', c', rfl, m1, m2, m3⟩ := own_some (z := tz) t_len HO8.out (by rw [HI.out]; simp)
        go_wp2_with fail
        go_ret
        exact ⟨b', o', c', rfl, m1, m2, m3.1, .inr (by have := m3.2; omega), HB8.out⟩
      · go_wp2_with (at_builtin; refine wpList_append_own _ rfl _ _ 22 rfl w.heap.size 9 i0 (.string ⟨#[]⟩) 1 16 Tryd.underlying22 hi hz0 hz1 hz2 rfl (by decide) _ _ _ rfl HO7.out ⟨b, off + q, none⟩ (len - q) (cap - q) (cellsAll tcells (ts.drop q)) rfl ?l1 ?d5 ?d6 ?d7 ?d8 HB7.out.size ?_)
        case l1 => rw [cellsAll_len t_len, List.length_drop]; have := HL.out; omega
        case d5 => exact fun j u hj => by have := rws_sub (i := q) (n := ts.length - q) t_len HT7.out j u (by rw [List.take_of_length_le (by simp)]; exact hj); rw [Nat.mul_one] at this; exact this
        case d6 => exact t_one _
        case d7 => unfold maxLen; omega
        case d8 => omega
        intro v3 w8 hown hgrow hne
        have HO8 : Hid (w8.ownsRow w.heap.size 9 1 v3 (ts.take q ++ t :: ts.drop q).length (cellsAll tcells (ts.take q ++ t :: ts.drop q))) := hid_intro (by
          rw [ins_cells, ins_len _ _ _ (by have := HL.out; omega), ← HL.out, show len + 1 = q + 1 + (len - q) by omega]
          rw [List.append_assoc]
          exact hown)
        have HB8 : Hid (Below w.heap.size w w8) := hid_intro (HB7.out.grown hgrow HB7.out.size (fun c hc => (HO7.out.lt c hc).1))
        clear hown hgrow hne
        rw [← HI.out] at HO8
        obtain ⟨b', o', c', rfl, m1, m2, m3⟩ := own_some (z := tz) t_len HO8.out (by rw [HI.out]; simp)
        go_wp2_with fail
        go_ret
        exact ⟨b', o', c', rfl, m1, m2, m3.1, .inr (by have := m3.2; omega), HB8.out⟩
end WinR
end Go.Proofs.YtnlmpejgiakepaaDoor
namespace Go.Proofs.YtnlmpejgiakepaaDoor
open Go.ChangeShapes Go.WideShapes Go.ChangeAt Go.RowKit
set_option linter.unusedVariables false
namespace WinR
open RowG (MadeG Rws cellsAll cellsAll_len cellsAll_get own_made take_more getD_mem)
theorem bdrewN {B : Nat} {a w : World} (h : Below B a w) (n : Nat) : Below B a (w.drewN n) := ⟨h.os, h.tape, h.output, h.size, h.block⟩
theorem h2_cells (w : World) (x y : Int) : ∀ j u, [Value.int .i64 x, .int .i64 y][j]? = some u → (w.alloc (.cells #[.int .i64 x, .int .i64 y] 65)).cell? ((⟨w.heap.size, 0, none⟩ : Addr).add j) = some u := by
  intro j u h
  match j, h with
  | 0, h => rw [Addr.add_lit]; simp at h; subst h; simp [go_sem]
  | 1, h => rw [Addr.add_lit]; simp at h; subst h; simp [go_sem]
theorem h2_one (x y : Int) : ∀ u ∈ [Value.int .i64 x, .int .i64 y], u.oneCell' = true := by
  intro u h
  simp at h
  rcases h with rfl | rfl <;> rfl
/-- Two of one hour. -/
def addH (x y : H) : H := ⟨x.h, x.s + y.s⟩
theorem Hrs.two {b off : Nat} {hs : List H} {w : World} (h : Hrs (some ⟨b, off, none⟩) hs w) (q : Nat) (hq : q < hs.length) : b < w.heap.size ∧ w.cell? ⟨b, off + q * 2, none⟩ = some (.int .i64 (hs.getD q H.zero).h) ∧ w.cell? ⟨b, off + q * 2 + 1, none⟩ = some (.int .i64 (hs.getD q H.zero).s) := by
  obtain ⟨b', off', e, hl, hc⟩ := Rws.at h q hq
  simp only [Option.some.injEq, Addr.mk.injEq, and_true] at e
  obtain ⟨rfl, rfl⟩ := e
  exact ⟨hl, by simpa [H.cells] using hc 0 (by omega), by simpa [H.cells] using hc 1 (by omega)⟩
set_option maxRecDepth 100000 in
set_option maxHeartbeats 8000000 in
theorem shour (b off cap : Nat) (hs : List H) (x y : Int) (w : World) (hl : hs.length ≤ 1048575) (hcap : hs.length ≤ cap) (hcm : cap ≤ maxLen) (hbw : b < w.heap.size) (hy : 0 ≤ y ∧ y ≤ 1000000000000000) (hsm : ∀ z ∈ hs, 0 ≤ z.s ∧ z.s ≤ 1000000000000000) (hT : Hrs (some ⟨b, off, none⟩) hs w) :
    Calls Tryd.prog 50 #[.slice (some ⟨b, off, none⟩) hs.length cap, .agg #[.int .i64 x, .int .i64 y]] w fun e w' => ∃ b' o' c', e = .returned (.slice (some ⟨b', o', none⟩) (ins hlt addH hs ⟨x, y⟩).length c') ∧ Hrs (some ⟨b', o', none⟩) (ins hlt addH hs ⟨x, y⟩) w' ∧ (ins hlt addH hs ⟨x, y⟩).length ≤ c' ∧ c' ≤ maxLen ∧ (b' = b ∨ w.heap.size ≤ b') ∧ Below w.heap.size w w' := by
  obtain ⟨i0, hi, hz0, hz1, hz2⟩ := info_parts infoH
  have HT := hid_intro hT
  have HSM := hid_intro hsm
  obtain ⟨len, hlen⟩ : ∃ len, len = hs.length := ⟨_, rfl⟩
  rw [← hlen] at hl hcap ⊢
  have HL := hid_intro hlen
  have HEND : Hid ((∀ j, j < hs.length → hlt (hs.getD j H.zero) ⟨x, y⟩ = true) → ins hlt addH hs ⟨x, y⟩ = hs ++ [⟨x, y⟩]) := hid_intro (ins_end hs _)
  have HAT : Hid (∀ q, q < hs.length → (∀ j, j < q → hlt (hs.getD j H.zero) ⟨x, y⟩ = true) → hlt (hs.getD q H.zero) ⟨x, y⟩ = false → (hlt ⟨x, y⟩ (hs.getD q H.zero) = true → ins hlt addH hs ⟨x, y⟩ = hs.take q ++ ⟨x, y⟩ :: hs.drop q) ∧ (hlt ⟨x, y⟩ (hs.getD q H.zero) = false → ins hlt addH hs ⟨x, y⟩ = hs.take q ++ addH (hs.getD q H.zero) ⟨x, y⟩ :: hs.drop (q + 1))) := hid_intro (fun q => ins_at hs _ q)
  generalize ins hlt addH hs ⟨x, y⟩ = R at *
  obtain ⟨y1, y2⟩ := hy
  unfold maxLen at hcm
  clear hT hlen hsm
  have HX0 := hid_intro (BlkW.new w [.int .i64 x, .int .i64 y] 65)
  have HB0 := hid_intro (al w (.cells #[.int .i64 x, .int .i64 y] 65))
  go_enter Tryd.func50, Tryd.ntmps50
  go_wp2_with fail
  go_loopw [5] (fun zv wr => ∃ q : Nat, q ≤ len ∧ zv = .int .i64 (q : Int) ∧ Hid (Below w.heap.size w wr) ∧ Hid (BlkW w.heap.size [.int .i64 x, .int .i64 y] wr) ∧ Hid (∀ j, j < q → hlt (hs.getD j H.zero) ⟨x, y⟩ = true)) (fun zv _ => len - (intOf zv).toNat)
  case atStart => exact ⟨0, by omega, rfl, HB0, HX0, hid_intro (fun j hj => absurd hj (by omega))⟩
  case round =>
    clear HX0 HB0
    obtain ⟨q, hq, rfl, HB, HX, HQ⟩ := hrel
    have c0 : wr.cell? ⟨w.heap.size, 0, none⟩ = some (.int .i64 x) := HX.out.1.2 0 (by simp)
    have hwl := HX.out.1.1
    by_cases hlt1 : q < len
    · have hlt2 : (q : Int) < (len : Int) := by omega
      have hqs : q < hs.length := by have := HL.out; omega
      obtain ⟨hbl, d0, d1⟩ := Hrs.two (HT.out.below HB.out) q hqs
      obtain ⟨s1, s2⟩ := HSM.out _ (getD_mem (z := H.zero) hs q hqs)
      have HTQ : Hid (∀ W, Below w.heap.size w W → b < W.heap.size ∧ W.cell? ⟨b, off + q * 2, none⟩ = some (.int .i64 (hs.getD q H.zero).h) ∧ W.cell? ⟨b, off + q * 2 + 1, none⟩ = some (.int .i64 (hs.getD q H.zero).s)) := hid_intro (fun W hW => Hrs.two (HT.out.below hW) q hqs)
      cases hc : hlt (hs.getD q H.zero) ⟨x, y⟩
      · have HA := hid_intro (HAT.out q hqs HQ.out hc)
        have hc1 := hc
        unfold hlt at hc1
        simp only [decide_eq_false_iff_not] at hc1
        generalize hs.getD q H.zero = Y at *
        obtain ⟨yh, ys⟩ := Y
        dsimp only at hc1 d0 d1 s1 s2 HTQ
        by_cases he : yh = x
        · subst he
          have hins : R = hs.take q ++ (⟨yh, y + ys⟩ : H) :: hs.drop (q + 1) := by
            have h := HA.out.2 (by unfold hlt; simp)
            rw [h]; unfold addH; rw [Int.add_comm ys y]
          have HI := hid_intro hins
          clear HA hc hins
          go_wp2_with fail
          go_quiet (fail)
          obtain ⟨W1, hW2⟩ : ∃ Wn, Wn = wr.drewN nq := ⟨_, rfl⟩
          rw [← hW2]
          have HDW1 : Hid (Below wr.heap.size wr W1) := hid_intro (by rw [hW2]; exact bdrewN (Below.refl _ _) _)
          clear hW2
          have HB1 := hid_intro (HB.out.trans (HDW1.out.mono HB.out.size))
          have HX1 := hid_intro (HX.out.below HDW1.out)
          clear HB HX HDW1 c0 hwl hbl d0 d1
          have HE0 := hid_intro (own_empty W1 (w.heap.size + 1) 65 2 HX1.out.1.1)
          have hqc : (q : Int) ≤ (cap : Int) := by omega
          have hql : (q : Int) ≤ (len : Int) := by omega
          have HT1 := hid_intro (HT.out.below (HB1.out.trans ((al W1 (.cells #[] 65)).mono HB1.out.size)))
          go_wp2_with (at_builtin; refine wpList_append_own _ rfl _ _ 30 rfl (w.heap.size + 1) 65 i0 (.agg #[.int .i64 0, .int .i64 0]) 2 16 Tryd.underlying30 hi hz0 hz1 hz2 rfl (by decide) _ _ _ rfl HE0.out ⟨b, off, none⟩ q cap (cellsAll H.cells (hs.take q)) rfl ?l1 ?d1 ?d2 ?d3 ?d4 (by have := HX1.out.1.1; simp; omega) ?_)
          case l1 => rw [cellsAll_len H.len, List.length_take]; have := HL.out; omega
          case d1 => exact fun j u hj => by have h := rws_sub (i := 0) (n := q) H.len HT1.out j u (by simpa using hj); first | exact h | (rw [Addr.add_lit, Nat.zero_mul, Nat.add_zero] at h; exact h)
          case d2 => exact hrs_one _
          case d3 => unfold maxLen; omega
          case d4 => omega
          intro v1 w6 hown hgrow hne
          have HO6 : Hid (w6.ownsRow (w.heap.size + 1) 65 2 v1 q (cellsAll H.cells (hs.take q))) := hid_intro (by first | exact hown | simpa using hown)
          have HB6 : Hid (Below w.heap.size w w6) := hid_intro ((HB1.out.trans ((al W1 (.cells #[] 65)).mono HB1.out.size)).grown hgrow (by have := HB1.out.size; simp; omega) (fun c hc => by have := HX1.out.1.1; simp [Value.ownBlock] at hc; omega))
          have HX6 : Hid (BlkW w.heap.size [.int .i64 yh, .int .i64 y] w6) := hid_intro (BlkW.grown (HX1.out.below (al W1 (.cells #[] 65))) hgrow (fun e => by have := HX1.out.1.1; simp [Value.ownBlock] at e; omega))
          clear hown hgrow hne HE0 HT1 HX1 HB1
          obtain ⟨gl, g0, g1⟩ := HTQ.out w6 HB6.out
          have c0 : w6.cell? ⟨w.heap.size, 0, none⟩ = some (.int .i64 yh) := HX6.out.1.2 0 (by simp)
          have hwl := HX6.out.1.1
          go_wp2_with fail
          go_quiet (fail)
          obtain ⟨W7, hW2⟩ : ∃ Wn, Wn = w6.drewN nq := ⟨_, rfl⟩
          rw [← hW2]
          have HDW7 : Hid (Below w6.heap.size w6 W7) := hid_intro (by rw [hW2]; exact bdrewN (Below.refl _ _) _)
          clear hW2
          have HO := hid_intro (RowG.own_below HO6.out HDW7.out)
          have HX := hid_intro (HX6.out.below HDW7.out)
          have HB := hid_intro (HB6.out.trans (HDW7.out.mono HB6.out.size))
          clear HO6 HX6 HB6 HDW7
          clear c0 hwl gl g0 g1
          obtain ⟨gl, g0, g1⟩ := HTQ.out W7 HB.out
          obtain ⟨Wd, hWd⟩ : ∃ Wd, Wd = W7.drew := ⟨_, rfl⟩
          have HXd : Hid (BlkW w.heap.size [.int .i64 yh, .int .i64 y] Wd) := hid_intro (by rw [hWd]; exact HX.out.below (Below.refl _ _).drew)
          have HOd : Hid (Wd.ownsRow (w.heap.size + 1) 65 2 v1 q (cellsAll H.cells (hs.take q))) := hid_intro (by rw [hWd]; exact HO.out)
          have HS0 : Hid (Below w.heap.size w Wd ∧ w.heap.size < Wd.heap.size ∧ Wd.cell? ⟨b, off + q * 2 + 1, none⟩ = some (.int .i64 ys)) := hid_intro (by rw [hWd]; exact ⟨HB.out.drew, HX.out.1.1, g1⟩)
          have hput : ∀ W : World, W.cell? ⟨b, off + q * 2 + 1, none⟩ = some (.int .i64 ys) → (W.setCell ⟨w.heap.size, 1, none⟩ (.int .i64 (y + ys))).cell? ⟨b, off + q * 2 + 1, none⟩ = some (.int .i64 ys) := fun W h => by rw [← h]; simp [go_sem]
          have hwr : IntKind.i64.wrap (y + ys) = y + ys := IntWalk.i64_in _ ⟨by omega, by omega⟩
          clear HX HO HB g1 g0 gl
          go_wp2_with fail
          refine wp_region_held_drew (S := (fun W => Below w.heap.size w W ∧ w.heap.size < W.heap.size ∧ W.cell? ⟨b, off + q * 2 + 1, none⟩ = some (.int .i64 ys))) (by kernel_rfl) (by rw [← hWd]; exact HS0.out) (fun hHeld => ?_)
          rw [← hWd]
          try rw [← hWd] at hHeld
          clear hWd
          refine wpAnyH_take (i := 0) (oi := { dst := some 42, op := Op.fieldAddr 65 (Operand.tmp 3) 1, type := 0, pos := "l07_window.go:71", after := #[], guard := none }) (v := ?_) rfl (by kernel_rfl) (by kernel_rfl) (by kernel_rfl) (fun _ _ _ h => h) (Or.inl ⟨by rfl, ?_⟩) (by assumption) ?_
          rotate_left
          · (intro w hSw; (try dsimp only at hSw); go_simp) <;> with_reducible rfl
          try simp only [Act.put, List.setIfInBounds_toArray, List.set_cons_zero, List.set_cons_succ]
          refine wpAnyH_take (i := 2) (oi := { dst := some 44, op := Op.move (Operand.tmp 0), type := 30, pos := "l07_window.go:71", after := #[], guard := none }) (v := ?_) rfl (by kernel_rfl) (by kernel_rfl) (by kernel_rfl) (fun _ _ _ h => h) (Or.inl ⟨by rfl, ?_⟩) (by assumption) ?_
          rotate_left
          · (intro w hSw; (try dsimp only at hSw); go_simp) <;> with_reducible rfl
          try simp only [Act.put, List.setIfInBounds_toArray, List.set_cons_zero, List.set_cons_succ]
          refine wpAnyH_take (i := 3) (oi := { dst := some 45, op := Op.move (Operand.tmp 5), type := 3, pos := "l07_window.go:71", after := #[], guard := none }) (v := ?_) rfl (by kernel_rfl) (by kernel_rfl) (by kernel_rfl) (fun _ _ _ h => h) (Or.inl ⟨by rfl, ?_⟩) (by assumption) ?_
          rotate_left
          · (intro w hSw; (try dsimp only at hSw); go_simp) <;> with_reducible rfl
          try simp only [Act.put, List.setIfInBounds_toArray, List.set_cons_zero, List.set_cons_succ]
          refine wpAnyH_take (i := 4) (oi := { dst := some 46, op := Op.indexAddr 30 (Operand.tmp 44) (Operand.tmp 45), type := 0, pos := "l07_window.go:71", after := #[{ on := 2, ground := Ground.data }, { on := 3, ground := Ground.data }], guard := none }) (v := ?_) rfl (by kernel_rfl) (by kernel_rfl) (by kernel_rfl) (fun _ _ _ h => h) (Or.inl ⟨by rfl, ?_⟩) (by assumption) ?_
          rotate_left
          · (intro w hSw; (try dsimp only at hSw); go_simp) <;> with_reducible rfl
          try simp only [Act.put, List.setIfInBounds_toArray, List.set_cons_zero, List.set_cons_succ]
          refine wpAnyH_take (i := 5) (oi := { dst := some 47, op := Op.fieldAddr 65 (Operand.tmp 46) 1, type := 0, pos := "l07_window.go:71", after := #[{ on := 4, ground := Ground.data }], guard := none }) (v := ?_) rfl (by kernel_rfl) (by kernel_rfl) (by kernel_rfl) (fun _ _ _ h => h) (Or.inl ⟨by rfl, ?_⟩) (by assumption) ?_
          rotate_left
          · (intro w hSw; (try dsimp only at hSw); go_simp) <;> with_reducible rfl
          try simp only [Act.put, List.setIfInBounds_toArray, List.set_cons_zero, List.set_cons_succ]
          refine wpAnyH_take (i := 6) (oi := { dst := some 48, op := Op.load 2 (Operand.tmp 47), type := 2, pos := "l07_window.go:71", after := #[{ on := 5, ground := Ground.data }], guard := none }) (v := ?_) rfl (by kernel_rfl) (by kernel_rfl) (by kernel_rfl) (fun _ _ _ h => h) (Or.inl ⟨by rfl, ?_⟩) (by assumption) ?_
          rotate_left
          · (intro w hSw; (try dsimp only at hSw); go_simp) <;> with_reducible rfl
          try simp only [Act.put, List.setIfInBounds_toArray, List.set_cons_zero, List.set_cons_succ]
          refine wpAnyH_ready (rs := [1]) (by kernel_rfl) (by simp) ?_
          refine AllReadyH.cons (o := { dst := some 43, op := Op.load 2 (Operand.tmp 42), type := 2, pos := "l07_window.go:71", after := #[{ on := 0, ground := Ground.data }], guard := none }) rfl (fun K hK => ?_) AllReadyH.nil
          have z1 : Wd.cell? ⟨w.heap.size, 1, none⟩ = some (.int .i64 y) := HXd.out.1.2 1 (by simp)
          have zl := HXd.out.1.1
          go_simp
          try go_wp2_with fail
          clear z1 zl
          refine hK.out _ _ HS0.out (fun _ => ?_)
          clear hK K
          try simp only [Act.put, List.setIfInBounds_toArray, List.set_cons_zero, List.set_cons_succ]
          refine wpAnyH_take (i := 7) (oi := { dst := some 49, op := Op.binOp BinOp.add 2 (Operand.tmp 43) (Operand.tmp 48) 2, type := 2, pos := "l07_window.go:71", after := #[{ on := 1, ground := Ground.data }, { on := 6, ground := Ground.data }], guard := none }) (v := ?_) rfl (by kernel_rfl) (by kernel_rfl) (by kernel_rfl) (fun _ _ _ h => h) (Or.inl ⟨by rfl, ?_⟩) (by assumption) ?_
          rotate_left
          · (intro w hSw; (try dsimp only at hSw); go_simp) <;> with_reducible rfl
          try simp only [Act.put, List.setIfInBounds_toArray, List.set_cons_zero, List.set_cons_succ]
          refine wpAnyH_take (i := 8) (oi := { dst := some 50, op := Op.fieldAddr 65 (Operand.tmp 3) 1, type := 0, pos := "l07_window.go:71", after := #[{ on := 0, ground := Ground.phase }, { on := 1, ground := Ground.phase }, { on := 2, ground := Ground.phase }, { on := 3, ground := Ground.phase }, { on := 4, ground := Ground.phase }, { on := 5, ground := Ground.phase }, { on := 6, ground := Ground.phase }, { on := 7, ground := Ground.phase }], guard := none }) (v := ?_) rfl (by kernel_rfl) (by kernel_rfl) (by kernel_rfl) (fun _ _ _ h => h) (Or.inl ⟨by rfl, ?_⟩) (by assumption) ?_
          rotate_left
          · (intro w hSw; (try dsimp only at hSw); go_simp) <;> with_reducible rfl
          try simp only [Act.put, List.setIfInBounds_toArray, List.set_cons_zero, List.set_cons_succ]
          refine wpAnyH_ready (rs := [9]) (by kernel_rfl) (by simp) ?_
          refine AllReadyH.cons (o := { dst := none, op := Op.store 2 (Operand.tmp 50) (Operand.tmp 49), type := 0, pos := "l07_window.go:71", after := #[{ on := 8, ground := Ground.data }, { on := 7, ground := Ground.data }, { on := 0, ground := Ground.phase }, { on := 1, ground := Ground.phase }, { on := 2, ground := Ground.phase }, { on := 3, ground := Ground.phase }, { on := 4, ground := Ground.phase }, { on := 5, ground := Ground.phase }, { on := 6, ground := Ground.phase }, { on := 7, ground := Ground.phase }], guard := none }) rfl (fun K hK => ?_) AllReadyH.nil
          have z1 : Wd.cell? ⟨w.heap.size, 1, none⟩ = some (.int .i64 y) := HXd.out.1.2 1 (by simp)
          have zf : Wd.frozen? ⟨w.heap.size, 1, none⟩ = false := HXd.out.2 1 (by simp)
          have zl := HXd.out.1.1
          go_simp
          try go_wp2_with fail
          have hx9 := HXd.out.set 1 (.int .i64 (y + ys)) (by simp)
          have ho9 := RowG.own_set HOd.out w.heap.size 1 (.int .i64 (y + ys)) (fun g hg => by have := (HOd.out.lt g hg).1; omega)
          have hb9 := HS0.out.1.setCell (p := ⟨w.heap.size, 1, none⟩) (Nat.le_refl _) (.int .i64 (y + ys))
          have hc9 := hput Wd HS0.out.2.2
          clear z1 zf
          refine hK.out _ _ ⟨hb9, by simpa using zl, hc9⟩ (fun _ => ?_)
          clear hK K zl
          try simp only [Act.put, List.setIfInBounds_toArray, List.set_cons_zero, List.set_cons_succ]
          refine wpAnyH_done (by kernel_rfl) ?_ _
          have HX := hid_intro hx9
          have HO := hid_intro ho9
          have HB := hid_intro hb9
          clear hx9 ho9 hb9 hc9 HXd HOd HS0 hput
          obtain ⟨We, hWe⟩ : ∃ We, We = Wd.setCell ⟨w.heap.size, 1, none⟩ (.int .i64 (y + ys)) := ⟨_, rfl⟩
          rw [← hWe] at HX HO HB ⊢
          clear hWe
          obtain ⟨⟨xl, xk⟩, xf⟩ := HX.out
          have x0 : We.cell? ⟨w.heap.size, 0, none⟩ = some (.int .i64 yh) := xk 0 (by simp)
          have x1 : We.cell? ⟨w.heap.size, 1, none⟩ = some (.int .i64 (y + ys)) := xk 1 (by simp)
          clear xk xf
          go_wp2_with (at_builtin; refine wpList_append_own _ rfl _ _ 30 rfl (w.heap.size + 1) 65 i0 (.agg #[.int .i64 0, .int .i64 0]) 2 16 Tryd.underlying30 hi hz0 hz1 hz2 rfl (by decide) _ _ _ rfl (HO.out.alloc _) ⟨We.heap.size, 0, none⟩ 1 1 [.int .i64 yh, .int .i64 (y + ys)] rfl rfl ?a1 ?a2 ?a3 ?a4 (by have := xl; simp; omega) ?_)
          case a1 => exact h2_cells _ _ _
          case a2 => exact h2_one _ _
          case a3 => unfold maxLen; omega
          case a4 => omega
          intro v2 w7 hown hgrow hne
          have HO7 : Hid (w7.ownsRow (w.heap.size + 1) 65 2 v2 (q + 1) (cellsAll H.cells (hs.take q) ++ [.int .i64 yh, .int .i64 (y + ys)])) := hid_intro hown
          have HB7 : Hid (Below w.heap.size w w7) := hid_intro ((HB.out.trans ((al We _).mono HB.out.size)).grown hgrow (by have := HB.out.size; simp; omega) (fun c hc => by have := (HO.out.lt c hc).1; omega))
          have HT7 := hid_intro (HT.out.below HB7.out)
          have HZ7 : Hid (w.heap.size + 1 ≤ w7.heap.size) := hid_intro (by have h1 := hgrow.size; have := xl; simp at h1; omega)
          clear hown hgrow hne x0 x1 xl
          by_cases hcq : cap = q + 1
          · obtain ⟨hp0, hpl⟩ : len - (q + 1) = 0 ∧ hs.drop (q + 1) = [] := ⟨by omega, List.drop_of_length_le (by have := HL.out; omega)⟩
            have HPL := hid_intro hpl
            have hlp : len = q + 1 := by omega
            clear hpl
            go_wp2_with (at_builtin; refine wpList_append_own _ rfl _ _ 30 rfl (w.heap.size + 1) 65 i0 (.agg #[.int .i64 0, .int .i64 0]) 2 16 Tryd.underlying30 hi hz0 hz1 hz2 rfl (by decide) _ _ _ rfl HO7.out ⟨b, off, none⟩ 0 0 [] rfl rfl (fun _ _ h => by simp at h) (fun _ h => by simp at h) (by unfold maxLen; omega) (by omega) HZ7.out ?_)
            intro v3 w8 hown hgrow hne
            have HO8 : Hid (w8.ownsRow (w.heap.size + 1) 65 2 v3 R.length (cellsAll H.cells R)) := hid_intro (by
              rw [HI.out, ins_cells, HPL.out, show (hs.take q ++ (⟨yh, (y + ys)⟩ : H) :: []).length = q + 1 by simp; have := HL.out; omega]
              first | exact hown | simpa [cellsAll, H.cells] using hown)
            have HB8 : Hid (Below w.heap.size w w8) := hid_intro (HB7.out.grown hgrow HB7.out.size (fun c hc => by have := (HO7.out.lt c hc).1; omega))
            clear hown hgrow hne
            obtain ⟨b', o', c', rfl, m1, m2, m3⟩ := own_some (z := H.zero) H.len HO8.out (by rw [HI.out]; simp)
            go_wp2_with fail
            go_ret
            exact ⟨b', o', c', rfl, m1, m2, m3.1, .inr (by have := m3.2; omega), HB8.out⟩
          · go_wp2_with (at_builtin; refine wpList_append_own _ rfl _ _ 30 rfl (w.heap.size + 1) 65 i0 (.agg #[.int .i64 0, .int .i64 0]) 2 16 Tryd.underlying30 hi hz0 hz1 hz2 rfl (by decide) _ _ _ rfl HO7.out ⟨b, off + (q + 1) * 2, none⟩ (len - (q + 1)) (cap - (q + 1)) (cellsAll H.cells (hs.drop (q + 1))) rfl ?l2 ?d5 ?d6 ?d7 ?d8 HZ7.out ?_)
            case l2 => rw [cellsAll_len H.len, List.length_drop]; have := HL.out; omega
            case d5 => exact fun j u hj => rws_sub (i := q + 1) (n := hs.length - (q + 1)) H.len HT7.out j u (by rw [List.take_of_length_le (by simp)]; exact hj)
            case d6 => exact hrs_one _
            case d7 => unfold maxLen; omega
            case d8 => omega
            intro v3 w8 hown hgrow hne
            have HO8 : Hid (w8.ownsRow (w.heap.size + 1) 65 2 v3 R.length (cellsAll H.cells R)) := hid_intro (by
              rw [HI.out, ins_cells, show (hs.take q ++ (⟨yh, (y + ys)⟩ : H) :: hs.drop (q + 1)).length = q + 1 + (len - (q + 1)) by simp; have := HL.out; omega]
              first | exact hown | (rw [List.append_assoc]; exact hown))
            have HB8 : Hid (Below w.heap.size w w8) := hid_intro (HB7.out.grown hgrow HB7.out.size (fun c hc => by have := (HO7.out.lt c hc).1; omega))
            clear hown hgrow hne
            obtain ⟨b', o', c', rfl, m1, m2, m3⟩ := own_some (z := H.zero) H.len HO8.out (by rw [HI.out]; simp)
            go_wp2_with fail
            go_ret
            exact ⟨b', o', c', rfl, m1, m2, m3.1, .inr (by have := m3.2; omega), HB8.out⟩
        · have hc2 : hlt ⟨x, y⟩ ⟨yh, ys⟩ = true := by unfold hlt; simp; omega
          have HI := hid_intro (HA.out.1 hc2)
          have he3 : ¬ x = yh := fun e => he e.symm
          clear HA hc hc2
          go_wp2_with fail
          go_quiet (fail)
          obtain ⟨W1, hW2⟩ : ∃ Wn, Wn = wr.drewN nq := ⟨_, rfl⟩
          rw [← hW2]
          have HDW1 : Hid (Below wr.heap.size wr W1) := hid_intro (by rw [hW2]; exact bdrewN (Below.refl _ _) _)
          clear hW2
          have HB1 := hid_intro (HB.out.trans (HDW1.out.mono HB.out.size))
          have HX1 := hid_intro (HX.out.below HDW1.out)
          clear HB HX HDW1 c0 hwl hbl d0 d1
          have HE0 := hid_intro (own_empty W1 (w.heap.size + 1) 65 2 HX1.out.1.1)
          have hqc : (q : Int) ≤ (cap : Int) := by omega
          have hql : (q : Int) ≤ (len : Int) := by omega
          have HT1 := hid_intro (HT.out.below (HB1.out.trans ((al W1 (.cells #[] 65)).mono HB1.out.size)))
          go_wp2_with (at_builtin; refine wpList_append_own _ rfl _ _ 30 rfl (w.heap.size + 1) 65 i0 (.agg #[.int .i64 0, .int .i64 0]) 2 16 Tryd.underlying30 hi hz0 hz1 hz2 rfl (by decide) _ _ _ rfl HE0.out ⟨b, off, none⟩ q cap (cellsAll H.cells (hs.take q)) rfl ?l1 ?d1 ?d2 ?d3 ?d4 (by have := HX1.out.1.1; simp; omega) ?_)
          case l1 => rw [cellsAll_len H.len, List.length_take]; have := HL.out; omega
          case d1 => exact fun j u hj => by have h := rws_sub (i := 0) (n := q) H.len HT1.out j u (by simpa using hj); first | exact h | (rw [Addr.add_lit, Nat.zero_mul, Nat.add_zero] at h; exact h)
          case d2 => exact hrs_one _
          case d3 => unfold maxLen; omega
          case d4 => omega
          intro v1 w6 hown hgrow hne
          have HO6 : Hid (w6.ownsRow (w.heap.size + 1) 65 2 v1 q (cellsAll H.cells (hs.take q))) := hid_intro (by first | exact hown | simpa using hown)
          have HB6 : Hid (Below w.heap.size w w6) := hid_intro ((HB1.out.trans ((al W1 (.cells #[] 65)).mono HB1.out.size)).grown hgrow (by have := HB1.out.size; simp; omega) (fun c hc => by have := HX1.out.1.1; simp [Value.ownBlock] at hc; omega))
          have HX6 : Hid (BlkW w.heap.size [.int .i64 x, .int .i64 y] w6) := hid_intro (BlkW.grown (HX1.out.below (al W1 (.cells #[] 65))) hgrow (fun e => by have := HX1.out.1.1; simp [Value.ownBlock] at e; omega))
          clear hown hgrow hne HE0 HT1 HX1 HB1
          obtain ⟨gl, g0, g1⟩ := HTQ.out w6 HB6.out
          have c0 : w6.cell? ⟨w.heap.size, 0, none⟩ = some (.int .i64 x) := HX6.out.1.2 0 (by simp)
          have hwl := HX6.out.1.1
          go_wp2_with fail
          go_quiet (fail)
          obtain ⟨W7, hW2⟩ : ∃ Wn, Wn = w6.drewN nq := ⟨_, rfl⟩
          rw [← hW2]
          have HDW7 : Hid (Below w6.heap.size w6 W7) := hid_intro (by rw [hW2]; exact bdrewN (Below.refl _ _) _)
          clear hW2
          have HO := hid_intro (RowG.own_below HO6.out HDW7.out)
          have HX := hid_intro (HX6.out.below HDW7.out)
          have HB := hid_intro (HB6.out.trans (HDW7.out.mono HB6.out.size))
          clear HO6 HX6 HB6 HDW7
          clear c0 hwl gl g0 g1
          obtain ⟨⟨xl, xk⟩, xf⟩ := HX.out
          have x0 : W7.cell? ⟨w.heap.size, 0, none⟩ = some (.int .i64 x) := xk 0 (by simp)
          have x1 : W7.cell? ⟨w.heap.size, 1, none⟩ = some (.int .i64 y) := xk 1 (by simp)
          clear xk xf
          go_wp2_with (at_builtin; refine wpList_append_own _ rfl _ _ 30 rfl (w.heap.size + 1) 65 i0 (.agg #[.int .i64 0, .int .i64 0]) 2 16 Tryd.underlying30 hi hz0 hz1 hz2 rfl (by decide) _ _ _ rfl (HO.out.alloc _) ⟨W7.heap.size, 0, none⟩ 1 1 [.int .i64 x, .int .i64 y] rfl rfl ?a1 ?a2 ?a3 ?a4 (by have := xl; simp; omega) ?_)
          case a1 => exact h2_cells _ _ _
          case a2 => exact h2_one _ _
          case a3 => unfold maxLen; omega
          case a4 => omega
          intro v2 w7 hown hgrow hne
          have HO7 : Hid (w7.ownsRow (w.heap.size + 1) 65 2 v2 (q + 1) (cellsAll H.cells (hs.take q) ++ [.int .i64 x, .int .i64 y])) := hid_intro hown
          have HB7 : Hid (Below w.heap.size w w7) := hid_intro ((HB.out.trans ((al W7 _).mono HB.out.size)).grown hgrow (by have := HB.out.size; simp; omega) (fun c hc => by have := (HO.out.lt c hc).1; omega))
          have HT7 := hid_intro (HT.out.below HB7.out)
          have HZ7 : Hid (w.heap.size + 1 ≤ w7.heap.size) := hid_intro (by have h1 := hgrow.size; have := xl; simp at h1; omega)
          clear hown hgrow hne x0 x1 xl
          by_cases hcq : cap = q
          · obtain ⟨hp0, hpl⟩ : len - (q) = 0 ∧ hs.drop (q) = [] := ⟨by omega, List.drop_of_length_le (by have := HL.out; omega)⟩
            have HPL := hid_intro hpl
            have hlp : len = q := by omega
            clear hpl
            go_wp2_with (at_builtin; refine wpList_append_own _ rfl _ _ 30 rfl (w.heap.size + 1) 65 i0 (.agg #[.int .i64 0, .int .i64 0]) 2 16 Tryd.underlying30 hi hz0 hz1 hz2 rfl (by decide) _ _ _ rfl HO7.out ⟨b, off, none⟩ 0 0 [] rfl rfl (fun _ _ h => by simp at h) (fun _ h => by simp at h) (by unfold maxLen; omega) (by omega) HZ7.out ?_)
            intro v3 w8 hown hgrow hne
            have HO8 : Hid (w8.ownsRow (w.heap.size + 1) 65 2 v3 R.length (cellsAll H.cells R)) := hid_intro (by
              rw [HI.out, ins_cells, HPL.out, show (hs.take q ++ (⟨x, y⟩ : H) :: []).length = q + 1 by simp; have := HL.out; omega]
              first | exact hown | simpa [cellsAll, H.cells] using hown)
            have HB8 : Hid (Below w.heap.size w w8) := hid_intro (HB7.out.grown hgrow HB7.out.size (fun c hc => by have := (HO7.out.lt c hc).1; omega))
            clear hown hgrow hne
            obtain ⟨b', o', c', rfl, m1, m2, m3⟩ := own_some (z := H.zero) H.len HO8.out (by rw [HI.out]; simp)
            go_wp2_with fail
            go_ret
            exact ⟨b', o', c', rfl, m1, m2, m3.1, .inr (by have := m3.2; omega), HB8.out⟩
          · go_wp2_with (at_builtin; refine wpList_append_own _ rfl _ _ 30 rfl (w.heap.size + 1) 65 i0 (.agg #[.int .i64 0, .int .i64 0]) 2 16 Tryd.underlying30 hi hz0 hz1 hz2 rfl (by decide) _ _ _ rfl HO7.out ⟨b, off + (q) * 2, none⟩ (len - (q)) (cap - (q)) (cellsAll H.cells (hs.drop (q))) rfl ?l2 ?d5 ?d6 ?d7 ?d8 HZ7.out ?_)
            case l2 => rw [cellsAll_len H.len, List.length_drop]; have := HL.out; omega
            case d5 => exact fun j u hj => rws_sub (i := q) (n := hs.length - (q)) H.len HT7.out j u (by rw [List.take_of_length_le (by simp)]; exact hj)
            case d6 => exact hrs_one _
            case d7 => unfold maxLen; omega
            case d8 => omega
            intro v3 w8 hown hgrow hne
            have HO8 : Hid (w8.ownsRow (w.heap.size + 1) 65 2 v3 R.length (cellsAll H.cells R)) := hid_intro (by
              rw [HI.out, ins_cells, show (hs.take q ++ (⟨x, y⟩ : H) :: hs.drop (q)).length = q + 1 + (len - (q)) by simp; have := HL.out; omega]
              first | exact hown | (rw [List.append_assoc]; exact hown))
            have HB8 : Hid (Below w.heap.size w w8) := hid_intro (HB7.out.grown hgrow HB7.out.size (fun c hc => by have := (HO7.out.lt c hc).1; omega))
            clear hown hgrow hne
            obtain ⟨b', o', c', rfl, m1, m2, m3⟩ := own_some (z := H.zero) H.len HO8.out (by rw [HI.out]; simp)
            go_wp2_with fail
            go_ret
            exact ⟨b', o', c', rfl, m1, m2, m3.1, .inr (by have := m3.2; omega), HB8.out⟩
      · have HQ2 : Hid (∀ j, j < q + 1 → hlt (hs.getD j H.zero) ⟨x, y⟩ = true) := hid_intro (fun j hj => by
          rcases Nat.lt_succ_iff_lt_or_eq.1 hj with h | rfl
          · exact HQ.out j h
          · exact hc)
        have hc1 := hc
        unfold hlt at hc1
        simp only [decide_eq_true_eq] at hc1
        generalize hs.getD q H.zero = Y at *
        obtain ⟨yh, ys⟩ := Y
        dsimp only at hc1 d0 d1
        clear hc
        go_wp2_with fail
        go_quiet (fail)
        go_wp2_with fail
        go_roundw
        case rel => exact ⟨q + 1, by omega, by go_num, hid_intro (bdrewN HB.out _), hid_intro (HX.out.below (bdrewN (Below.refl _ _) _)), HQ2⟩
        case measure => simp [intOf]; omega
    · have hlt2 : ¬ (q : Int) < (len : Int) := by omega
      have hins : R = hs.take q ++ (⟨x, y⟩ : H) :: hs.drop q := by
        have e : q = hs.length := by have := HL.out; omega
        rw [HEND.out (fun j hj => HQ.out j (by omega)), e]
        simp
      have HI := hid_intro hins
      clear hins
      go_wp2_with fail
      go_quiet (fail)
      obtain ⟨W1, hW2⟩ : ∃ Wn, Wn = wr.drewN nq := ⟨_, rfl⟩
      rw [← hW2]
      have HDW1 : Hid (Below wr.heap.size wr W1) := hid_intro (by rw [hW2]; exact bdrewN (Below.refl _ _) _)
      clear hW2
      have HB1 := hid_intro (HB.out.trans (HDW1.out.mono HB.out.size))
      have HX1 := hid_intro (HX.out.below HDW1.out)
      clear HB HX HDW1 c0 hwl
      have HE0 := hid_intro (own_empty W1 (w.heap.size + 1) 65 2 HX1.out.1.1)
      have hqc : (q : Int) ≤ (cap : Int) := by omega
      have hql : (q : Int) ≤ (len : Int) := by omega
      have HT1 := hid_intro (HT.out.below (HB1.out.trans ((al W1 (.cells #[] 65)).mono HB1.out.size)))
      go_wp2_with (at_builtin; refine wpList_append_own _ rfl _ _ 30 rfl (w.heap.size + 1) 65 i0 (.agg #[.int .i64 0, .int .i64 0]) 2 16 Tryd.underlying30 hi hz0 hz1 hz2 rfl (by decide) _ _ _ rfl HE0.out ⟨b, off, none⟩ q cap (cellsAll H.cells (hs.take q)) rfl ?l1 ?d1 ?d2 ?d3 ?d4 (by have := HX1.out.1.1; simp; omega) ?_)
      case l1 => rw [cellsAll_len H.len, List.length_take]; have := HL.out; omega
      case d1 => exact fun j u hj => by have h := rws_sub (i := 0) (n := q) H.len HT1.out j u (by simpa using hj); first | exact h | (rw [Addr.add_lit, Nat.zero_mul, Nat.add_zero] at h; exact h)
      case d2 => exact hrs_one _
      case d3 => unfold maxLen; omega
      case d4 => omega
      intro v1 w6 hown hgrow hne
      have HO6 : Hid (w6.ownsRow (w.heap.size + 1) 65 2 v1 q (cellsAll H.cells (hs.take q))) := hid_intro (by first | exact hown | simpa using hown)
      have HB6 : Hid (Below w.heap.size w w6) := hid_intro ((HB1.out.trans ((al W1 (.cells #[] 65)).mono HB1.out.size)).grown hgrow (by have := HB1.out.size; simp; omega) (fun c hc => by have := HX1.out.1.1; simp [Value.ownBlock] at hc; omega))
      have HX6 : Hid (BlkW w.heap.size [.int .i64 x, .int .i64 y] w6) := hid_intro (BlkW.grown (HX1.out.below (al W1 (.cells #[] 65))) hgrow (fun e => by have := HX1.out.1.1; simp [Value.ownBlock] at e; omega))
      clear hown hgrow hne HE0 HT1 HX1 HB1
      go_wp2_with fail
      go_quiet (fail)
      obtain ⟨W7, hW2⟩ : ∃ Wn, Wn = w6.drewN nq := ⟨_, rfl⟩
      rw [← hW2]
      have HDW7 : Hid (Below w6.heap.size w6 W7) := hid_intro (by rw [hW2]; exact bdrewN (Below.refl _ _) _)
      clear hW2
      have HO := hid_intro (RowG.own_below HO6.out HDW7.out)
      have HX := hid_intro (HX6.out.below HDW7.out)
      have HB := hid_intro (HB6.out.trans (HDW7.out.mono HB6.out.size))
      clear HO6 HX6 HB6 HDW7
      obtain ⟨⟨xl, xk⟩, xf⟩ := HX.out
      have x0 : W7.cell? ⟨w.heap.size, 0, none⟩ = some (.int .i64 x) := xk 0 (by simp)
      have x1 : W7.cell? ⟨w.heap.size, 1, none⟩ = some (.int .i64 y) := xk 1 (by simp)
      clear xk xf
      go_wp2_with (at_builtin; refine wpList_append_own _ rfl _ _ 30 rfl (w.heap.size + 1) 65 i0 (.agg #[.int .i64 0, .int .i64 0]) 2 16 Tryd.underlying30 hi hz0 hz1 hz2 rfl (by decide) _ _ _ rfl (HO.out.alloc _) ⟨W7.heap.size, 0, none⟩ 1 1 [.int .i64 x, .int .i64 y] rfl rfl ?a1 ?a2 ?a3 ?a4 (by have := xl; simp; omega) ?_)
      case a1 => exact h2_cells _ _ _
      case a2 => exact h2_one _ _
      case a3 => unfold maxLen; omega
      case a4 => omega
      intro v2 w7 hown hgrow hne
      have HO7 : Hid (w7.ownsRow (w.heap.size + 1) 65 2 v2 (q + 1) (cellsAll H.cells (hs.take q) ++ [.int .i64 x, .int .i64 y])) := hid_intro hown
      have HB7 : Hid (Below w.heap.size w w7) := hid_intro ((HB.out.trans ((al W7 _).mono HB.out.size)).grown hgrow (by have := HB.out.size; simp; omega) (fun c hc => by have := (HO.out.lt c hc).1; omega))
      have HT7 := hid_intro (HT.out.below HB7.out)
      have HZ7 : Hid (w.heap.size + 1 ≤ w7.heap.size) := hid_intro (by have h1 := hgrow.size; have := xl; simp at h1; omega)
      clear hown hgrow hne x0 x1 xl
      by_cases hcq : cap = q
      · obtain ⟨hp0, hpl⟩ : len - (q) = 0 ∧ hs.drop (q) = [] := ⟨by omega, List.drop_of_length_le (by have := HL.out; omega)⟩
        have HPL := hid_intro hpl
        have hlp : len = q := by omega
        clear hpl
        go_wp2_with (at_builtin; refine wpList_append_own _ rfl _ _ 30 rfl (w.heap.size + 1) 65 i0 (.agg #[.int .i64 0, .int .i64 0]) 2 16 Tryd.underlying30 hi hz0 hz1 hz2 rfl (by decide) _ _ _ rfl HO7.out ⟨b, off, none⟩ 0 0 [] rfl rfl (fun _ _ h => by simp at h) (fun _ h => by simp at h) (by unfold maxLen; omega) (by omega) HZ7.out ?_)
        intro v3 w8 hown hgrow hne
        have HO8 : Hid (w8.ownsRow (w.heap.size + 1) 65 2 v3 R.length (cellsAll H.cells R)) := hid_intro (by
          rw [HI.out, ins_cells, HPL.out, show (hs.take q ++ (⟨x, y⟩ : H) :: []).length = q + 1 by simp; have := HL.out; omega]
          first | exact hown | simpa [cellsAll, H.cells] using hown)
        have HB8 : Hid (Below w.heap.size w w8) := hid_intro (HB7.out.grown hgrow HB7.out.size (fun c hc => by have := (HO7.out.lt c hc).1; omega))
        clear hown hgrow hne
        obtain ⟨b', o', c', rfl, m1, m2, m3⟩ := own_some (z := H.zero) H.len HO8.out (by rw [HI.out]; simp)
        go_wp2_with fail
        go_ret
        exact ⟨b', o', c', rfl, m1, m2, m3.1, .inr (by have := m3.2; omega), HB8.out⟩
      · go_wp2_with (at_builtin; refine wpList_append_own _ rfl _ _ 30 rfl (w.heap.size + 1) 65 i0 (.agg #[.int .i64 0, .int .i64 0]) 2 16 Tryd.underlying30 hi hz0 hz1 hz2 rfl (by decide) _ _ _ rfl HO7.out ⟨b, off + (q) * 2, none⟩ (len - (q)) (cap - (q)) (cellsAll H.cells (hs.drop (q))) rfl ?l2 ?d5 ?d6 ?d7 ?d8 HZ7.out ?_)
        case l2 => rw [cellsAll_len H.len, List.length_drop]; have := HL.out; omega
        case d5 => exact fun j u hj => rws_sub (i := q) (n := hs.length - (q)) H.len HT7.out j u (by rw [List.take_of_length_le (by simp)]; exact hj)
        case d6 => exact hrs_one _
        case d7 => unfold maxLen; omega
        case d8 => omega
        intro v3 w8 hown hgrow hne
        have HO8 : Hid (w8.ownsRow (w.heap.size + 1) 65 2 v3 R.length (cellsAll H.cells R)) := hid_intro (by
          rw [HI.out, ins_cells, show (hs.take q ++ (⟨x, y⟩ : H) :: hs.drop (q)).length = q + 1 + (len - (q)) by simp; have := HL.out; omega]
          first | exact hown | (rw [List.append_assoc]; exact hown))
        have HB8 : Hid (Below w.heap.size w w8) := hid_intro (HB7.out.grown hgrow HB7.out.size (fun c hc => by have := (HO7.out.lt c hc).1; omega))
        clear hown hgrow hne
        obtain ⟨b', o', c', rfl, m1, m2, m3⟩ := own_some (z := H.zero) H.len HO8.out (by rw [HI.out]; simp)
        go_wp2_with fail
        go_ret
        exact ⟨b', o', c', rfl, m1, m2, m3.1, .inr (by have := m3.2; omega), HB8.out⟩
end WinR
end Go.Proofs.YtnlmpejgiakepaaDoor
namespace Go.Proofs.YtnlmpejgiakepaaDoor
open Go.ChangeShapes Go.WideShapes Go.ChangeAt Go.RowKit
set_option linter.unusedVariables false
set_option linter.unusedSimpArgs false
namespace WinR
open RowG (MadeG Rws cellsAll cellsAll_len cellsAll_get own_made take_more getD_mem)
open CatR (Blk Blk.new)
open LtR
theorem bdN2 {B : Nat} {a w : World} (h : Below B a w) (n : Nat) : Below B a (w.drewN n) := ⟨h.os, h.tape, h.output, h.size, h.block⟩
/-- How many a list holds. -/
def slen : Value → Nat
  | .slice _ n _ => n
  | _ => 0
/-- A list's value: these texts, in the world at the start. -/
def Lst (w : World) (v : Value) (L : List ByteArray) : Prop := ∃ ao c, v = .slice ao L.length c ∧ SlOk ao L.length c ∧ Tgs ao L w
theorem Lst.tail {w : World} {ao : Option Addr} {c : Nat} {X : ByteArray} {L : List ByteArray} (hS : SlOk ao (X :: L).length c) (h : Tgs ao (X :: L) w) : ∃ b off, ao = some ⟨b, off, none⟩ ∧ b < w.heap.size ∧ w.cell? ⟨b, off, none⟩ = some (.string X) ∧ L.length + 1 ≤ c ∧ c ≤ maxLen ∧ (c = 1 → Lst w (.slice (some ⟨b, off, none⟩) 0 0) L) ∧ (¬ c = 1 → Lst w (.slice (some ⟨b, off + 1, none⟩) L.length (c - 1)) L) := by
  obtain ⟨b, off, rfl, hbl, c0⟩ := h.at 0 (by simp)
  rcases hS with ⟨h0, _⟩ | ⟨b', off', he, h1, h2⟩
  · cases h0
  · refine ⟨b, off, rfl, hbl, by simpa using c0, by simpa using h1, h2, fun hc => ?_, fun hc => ?_⟩
    · have : L = [] := List.length_eq_zero_iff.1 (by simp at h1; omega)
      subst this
      exact ⟨_, _, rfl, .inr ⟨b, off, rfl, Nat.le_refl _, by unfold maxLen; omega⟩, .inl rfl⟩
    · refine ⟨_, _, rfl, .inr ⟨b, off + 1, rfl, by simp at h1; omega, by omega⟩, ?_⟩
      rcases h with h | ⟨b', off', he, _, hc'⟩
      · simp at h
      · simp only [Option.some.injEq, Addr.mk.injEq, and_true] at he
        obtain ⟨rfl, rfl⟩ := he
        refine .inr ⟨b, off + 1, rfl, hbl, fun j hj => ?_⟩
        have := hc' (j + 1) (by simpa using hj)
        intro i hi
        have := this i hi
        simp only [List.getD_cons_succ] at this
        rw [← this]
        congr 2
        omega
/-- What stands in the round: the list's box, the answer's box, what was laid so far. -/
def KW (w : World) (ta : Option Addr) (tl tc : Nat) (P : List ByteArray) (bv : Value) (W : World) : Prop := Below w.heap.size w W ∧ BlkW w.heap.size [.slice ta tl tc, .func (.func 88) #[] #[], .func (.func 89) #[] #[]] W ∧ BlkW (w.heap.size + 2) [.slice none 0 0, .nilFunc, .nilFunc] W ∧ W.ownsRow (w.heap.size + 3) 9 1 bv P.length (cellsAll tcells P)
theorem KW.below {w : World} {ta : Option Addr} {tl tc : Nat} {P : List ByteArray} {bv : Value} {W W' : World} (h : KW w ta tl tc P bv W) (hb : Below W.heap.size W W') : KW w ta tl tc P bv W' :=
  ⟨h.1.trans (hb.mono h.1.size), h.2.1.below hb, h.2.2.1.below hb, RowG.own_below h.2.2.2 hb⟩
theorem KW.app {w : World} {ta : Option Addr} {tl tc : Nat} {P : List ByteArray} {bv : Value} {W W' : World} {x : ByteArray} {v' : Value} (h : KW w ta tl tc P bv W) (ho : W'.ownsRow (w.heap.size + 3) 9 1 v' (P.length + 1) (cellsAll tcells P ++ [.string x])) (hg : W.grownBy W' bv.ownBlock) : KW w ta tl tc (P ++ [x]) v' W' := by
  refine ⟨h.1.grown hg h.1.size (fun c hc => by have := (h.2.2.2.lt c hc).1; omega), BlkW.grown h.2.1 hg (fun e => by have := (h.2.2.2.lt _ e.symm).1; omega), BlkW.grown h.2.2.1 hg (fun e => by have := (h.2.2.2.lt _ e.symm).1; omega), ?_⟩
  rw [RowG.cellsAll_app, List.length_append]
  exact ho
theorem KW.appL {w : World} {ta : Option Addr} {tl tc : Nat} {P L : List ByteArray} {bv : Value} {W W' : World} {v' : Value} (h : KW w ta tl tc P bv W) (ho : W'.ownsRow (w.heap.size + 3) 9 1 v' (P.length + L.length) (cellsAll tcells P ++ cellsAll tcells L)) (hg : W.grownBy W' bv.ownBlock) : KW w ta tl tc (P ++ L) v' W' := by
  refine ⟨h.1.grown hg h.1.size (fun c hc => by have := (h.2.2.2.lt c hc).1; omega), BlkW.grown h.2.1 hg (fun e => by have := (h.2.2.2.lt _ e.symm).1; omega), BlkW.grown h.2.2.1 hg (fun e => by have := (h.2.2.2.lt _ e.symm).1; omega), ?_⟩
  rw [show cellsAll tcells (P ++ L) = cellsAll tcells P ++ cellsAll tcells L by simp [cellsAll], List.length_append]
  exact ho
theorem KW.nil {w : World} {ta : Option Addr} {tl tc : Nat} {P : List ByteArray} {bv : Value} {W : World} (h : KW w ta tl tc P bv W) : KW w ta tl tc (P ++ []) bv W := by rw [List.append_nil]; exact h
theorem tgs_src {b off : Nat} {L : List ByteArray} {w W : World} (h : Tgs (some ⟨b, off, none⟩) L w) (hW : Below w.heap.size w W) : ∀ j u, (cellsAll tcells L)[j]? = some u → W.cell? ((⟨b, off, none⟩ : Addr).add j) = some u := by
  intro j u hj
  have h2 := rws_sub (i := 0) (n := L.length) t_len (h.below hW) j u (by simpa using hj)
  rw [Nat.zero_mul, Nat.add_zero] at h2
  exact h2
theorem tmeet (x y : ByteArray) (w : World) : Calls Tryd.prog 89 #[.string x, .string y] w fun e w' => e = .returned (.string x) ∧ w' = w := by
  go_enter Tryd.func89, Tryd.ntmps89
  go_wp2
  go_ret
  exact ⟨rfl, rfl⟩
theorem nanS (x : ByteArray) (w : World) : Calls Tryd.prog 116 #[.string x] w fun e w' => e = .returned (.bool false) ∧ w' = w := by
  go_enter Tryd.func116, Tryd.ntmps116
  go_wp2
  go_ret
  exact ⟨by simp, rfl⟩
/-- How two texts stand. -/
def cmpT (x y : ByteArray) : Int := if lt x y = true then -1 else if lt y x = true then 1 else 0
theorem cmpS (x y : ByteArray) (w : World) : Calls Tryd.prog 105 #[.string x, .string y] w fun e w' => e = .returned (.int .i64 (cmpT x y)) ∧ w' = w := by
  have HN := hid_intro nanS
  unfold cmpT lt
  cases h1 : Op.bytesLess x.toList y.toList
  · cases h2 : Op.bytesLess y.toList x.toList
    · obtain rfl : x = y := toList_inj (bl_total h1 h2)
      have he : (x.toList == x.toList) = true := by simp
      go_enter Tryd.func105, Tryd.ntmps105
      go_wp2_with (first | (go_at_call 116; refine (HN.out _ _).mono ?_; rintro e w' ⟨rfl, rfl⟩))
      go_ret
      exact ⟨by first | rfl | simp, rfl⟩
    · have he : (x.toList == y.toList) = false := by
        cases h : (x.toList == y.toList)
        · rfl
        · rw [beq_iff_eq.1 h, bl_irrefl] at h2; cases h2
      go_enter Tryd.func105, Tryd.ntmps105
      go_wp2_with (first | (go_at_call 116; refine (HN.out _ _).mono ?_; rintro e w' ⟨rfl, rfl⟩))
      go_ret
      exact ⟨by first | rfl | simp, rfl⟩
  · go_enter Tryd.func105, Tryd.ntmps105
    go_wp2_with (first | (go_at_call 116; refine (HN.out _ _).mono ?_; rintro e w' ⟨rfl, rfl⟩))
    go_ret
    exact ⟨by first | rfl | simp, rfl⟩
set_option maxRecDepth 100000 in
set_option maxHeartbeats 16000000 in
theorem with_tags (A0 B0 : List ByteArray) (ta tb : Option Addr) (tc tb2 : Nat) (w : World) (hlen : A0.length + B0.length ≤ 1048575) (sa : SlOk ta A0.length tc) (sb : SlOk tb B0.length tb2) (hA : Tgs ta A0 w) (hB : Tgs tb B0 w) :
    Calls Tryd.prog 78 #[.agg #[.slice ta A0.length tc, .func (.func 88) #[] #[], .func (.func 89) #[] #[]], .agg #[.slice tb B0.length tb2, .func (.func 88) #[] #[], .func (.func 89) #[] #[]]] w fun e w' => ∃ ao c, e = .returned (.agg #[.slice ao (mrg lt fstT A0 B0).length c, .func (.func 88) #[] #[], .func (.func 89) #[] #[]]) ∧ Tgs ao (mrg lt fstT A0 B0) w' ∧ ((mrg lt fstT A0 B0).length = 0 ∨ ∀ b off, ao = some ⟨b, off, none⟩ → w.heap.size ≤ b) ∧ Below w.heap.size w w' := by
  obtain ⟨i0, hi, hz0, hz1, hz2⟩ := info_parts infoT
  have HLA : Hid (Lst w (.slice ta A0.length tc) A0) := hid_intro ⟨_, _, rfl, sa, hA⟩
  have HLB : Hid (Lst w (.slice tb B0.length tb2) B0) := hid_intro ⟨_, _, rfl, sb, hB⟩
  have HKEY := hid_intro tkey
  have HCMP := hid_intro cmpS
  obtain ⟨R, hR⟩ : ∃ R, R = mrg lt fstT A0 B0 := ⟨_, rfl⟩
  have HM0 : Hid ([] ++ mrg lt fstT A0 B0 = R) := hid_intro hR.symm
  rw [← hR]
  clear hR
  obtain ⟨tl, htl⟩ : ∃ tl, tl = A0.length := ⟨_, rfl⟩
  obtain ⟨bl, hbl⟩ : ∃ bl, bl = B0.length := ⟨_, rfl⟩
  have HTL := hid_intro htl
  have HBL := hid_intro hbl
  rw [← htl] at HLA ⊢
  rw [← hbl] at HLB ⊢
  clear htl hbl sa sb hA hB
  obtain ⟨W0, hW0⟩ : ∃ W0, W0 = ((w.alloc (.cells #[.slice ta tl tc, .func (.func 88) #[] #[], .func (.func 89) #[] #[]] 91)).alloc (.cells #[.slice tb bl tb2, .func (.func 88) #[] #[], .func (.func 89) #[] #[]] 91)).alloc (.cells #[.slice none 0 0, .nilFunc, .nilFunc] 91) := ⟨_, rfl⟩
  have HW0 := hid_intro hW0
  have HK0 : Hid (KW w ta tl tc [] (.slice none 0 0) W0) := hid_intro (by
    rw [hW0]
    refine ⟨(((Below.refl _ _).alloc (Nat.le_refl _) _).alloc (by simp) _).alloc (by simp; omega) _, ((BlkW.new w [.slice ta tl tc, .func (.func 88) #[] #[], .func (.func 89) #[] #[]] 91).below (al _ _)).below (al _ _), ?_, World.ownsRow_nil _ _ _ _⟩
    have h := BlkW.new ((w.alloc (.cells #[.slice ta tl tc, .func (.func 88) #[] #[], .func (.func 89) #[] #[]] 91)).alloc (.cells #[.slice tb bl tb2, .func (.func 88) #[] #[], .func (.func 89) #[] #[]] 91)) [.slice none 0 0, .nilFunc, .nilFunc] 91
    rw [show ((w.alloc (.cells #[.slice ta tl tc, .func (.func 88) #[] #[], .func (.func 89) #[] #[]] 91)).alloc (.cells #[.slice tb bl tb2, .func (.func 88) #[] #[], .func (.func 89) #[] #[]] 91)).heap.size = w.heap.size + 2 by simp] at h
    exact h)
  have HY0 : Hid (Blk (w.heap.size + 1) [.slice tb bl tb2, .func (.func 88) #[] #[], .func (.func 89) #[] #[]] W0) := hid_intro (by
    have h := Blk.new (w.alloc (.cells #[.slice ta tl tc, .func (.func 88) #[] #[], .func (.func 89) #[] #[]] 91)) [.slice tb bl tb2, .func (.func 88) #[] #[], .func (.func 89) #[] #[]] 91
    rw [show (w.alloc (.cells #[.slice ta tl tc, .func (.func 88) #[] #[], .func (.func 89) #[] #[]] 91)).heap.size = w.heap.size + 1 by simp] at h
    rw [hW0]
    exact h.below (al _ _))
  clear hW0
  go_enter Tryd.func78, Tryd.ntmps78
  go_wp2_with fail
  rw [← HW0.out]
  have x0 : W0.cell? ⟨w.heap.size, 0, none⟩ = some (.slice ta tl tc) := HK0.out.2.1.1.2 0 (by simp)
  have y0 : W0.cell? ⟨w.heap.size + 1, 0, none⟩ = some (.slice tb bl tb2) := HY0.out.2 0 (by simp)
  have xl := HK0.out.2.1.1.1
  have yl := HY0.out.1
  go_quiet (fail)
  go_wp2_with fail
  obtain ⟨W1, hW1⟩ : ∃ W1, W1 = W0.drewN nq := ⟨_, rfl⟩
  rw [← hW1]
  have HK1 : Hid (KW w ta tl tc [] (.slice none 0 0) W1) := hid_intro (by rw [hW1]; exact KW.below (w := w) (ta := ta) (tl := tl) (tc := tc) HK0.out (bdN2 (Below.refl _ _) _))
  clear hW1 HK0 HY0 HW0 x0 y0 xl yl
  go_loopw [5, 6, 7] (fun bv lv rv wr => ∃ (P L Q : List ByteArray), Hid (Lst w lv L) ∧ Hid (Lst w rv Q) ∧ P.length + L.length + Q.length ≤ 1048575 ∧ Hid (P ++ mrg lt fstT L Q = R) ∧ Hid (KW w ta tl tc P bv wr)) (fun _ lv rv _ => slen lv + slen rv)
  case atStart => exact ⟨[], A0, B0, HLA, HLB, by simp; exact hlen, HM0, HK1⟩
  case round =>
    clear HLA HLB HM0 HK1
    obtain ⟨P, L, Q, HL, HQ, hN, HR, HK⟩ := hrel
    obtain ⟨bv, hbv⟩ : ∃ bv, bv = u5 := ⟨_, rfl⟩
    subst hbv
    obtain ⟨la, lc, rfl, sl, hl⟩ := HL.out
    obtain ⟨ra, rc, rfl, sr, hr⟩ := HQ.out
    cases L with
    | nil =>
      have HRR : Hid (P ++ [] ++ Q = R) := hid_intro (by rw [← HR.out, List.append_nil]; simp [mrg])
      have HTL1x := hid_intro hl
      have HTRx := hid_intro hr
      obtain ⟨rl, hrl⟩ : ∃ rl, rl = Q.length := ⟨_, rfl⟩
      have HRn := hid_intro hrl
      have HLn : Hid (0 = 0) := hid_intro rfl
      simp only [List.length_nil] at hN sl ⊢
      rw [← hrl] at hN sr ⊢
      clear HL HQ hl hr hrl
      rcases sl with ⟨rfl, _, rfl⟩ | ⟨b, off, rfl, n1, n2⟩
      · rcases sr with ⟨rfl, hr0, rfl⟩ | ⟨b2, off2, rfl, m1, m2⟩
        · subst hr0
          obtain rfl : Q = [] := List.length_eq_zero_iff.1 HRn.out.symm
          have HKe := HK
          rw [show P = R from by rw [← HRR.out]; simp] at HKe
          have ho := HKe.out.2.2.2
          obtain ⟨ao, cp, rfl, hm⟩ := own_made (z := tz) t_len ho
          have HM := hid_intro hm
          have HNE : Hid (R.length = 0 ∨ ∀ b off, ao = some ⟨b, off, none⟩ → w.heap.size + 3 ≤ b) := hid_intro (by
            rcases hm.own with h0 | ⟨g, e1, e2, _⟩
            · exact .inl h0
            · exact .inr (fun b off q => by rw [e1] at q; simp at q; omega))
          clear hm ho
          obtain ⟨⟨xl, xk⟩, xf⟩ := HKe.out.2.1
          have x0 : wr.cell? ⟨w.heap.size, 0, none⟩ = some (.slice ta tl tc) := xk 0 (by simp)
          have x1 : wr.cell? ⟨w.heap.size, 1, none⟩ = some (.func (.func 88) #[] #[]) := xk 1 (by simp)
          have x2 : wr.cell? ⟨w.heap.size, 2, none⟩ = some (.func (.func 89) #[] #[]) := xk 2 (by simp)
          have xf0 : wr.frozen? ⟨w.heap.size, 0, none⟩ = false := xf 0 (by simp)
          obtain ⟨⟨zl, zk⟩, zf⟩ := HKe.out.2.2.1
          have z0 : wr.cell? ⟨w.heap.size + 2, 0, none⟩ = some (.slice none 0 0) := zk 0 (by simp)
          have z1 : wr.cell? ⟨w.heap.size + 2, 1, none⟩ = some .nilFunc := zk 1 (by simp)
          have z2 : wr.cell? ⟨w.heap.size + 2, 2, none⟩ = some .nilFunc := zk 2 (by simp)
          have zf0 : wr.frozen? ⟨w.heap.size + 2, 0, none⟩ = false := zf 0 (by simp)
          have zf1 : wr.frozen? ⟨w.heap.size + 2, 1, none⟩ = false := zf 1 (by simp)
          have zf2 : wr.frozen? ⟨w.heap.size + 2, 2, none⟩ = false := zf 2 (by simp)
          clear xk xf zk zf
          go_wp2_with (at_builtin; refine wpList_append_own_none rfl _ _ 22 rfl (w.heap.size + 3) 9 i0 1 Tryd.underlying22 hi _ _ _ rfl HKe.out.2.2.2 rfl ?_)
          refine bodyPost_ret (v := .agg #[.slice ao R.length cp, .func (.func 88) #[] #[], .func (.func 89) #[] #[]]) (by simp [results, Tryd.results78, go_sem, z0, z1, z2]) rfl ?_
          have q3 : R.length = 0 ∨ ∀ b off, ao = some ⟨b, off, none⟩ → w.heap.size ≤ b := HNE.out.imp id (fun h b off e => by have := h b off e; omega)
          first | refine ⟨ao, ⟨cp, rfl⟩, ?_, (by first | exact q3 | simpa using q3), ?_⟩ | refine ⟨ao, cp, rfl, ?_, (by first | exact q3 | simpa using q3), ?_⟩
          · have q0 : R.length = 0 ∨ ∀ b off, ao = some ⟨b, off, none⟩ → b ≠ w.heap.size := HNE.out.imp id (fun h b off e => by have := h b off e; omega)
            have q2 : R.length = 0 ∨ ∀ b off, ao = some ⟨b, off, none⟩ → b ≠ w.heap.size + 1 + 1 := HNE.out.imp id (fun h b off e => by have := h b off e; omega)
            exact (Rws.put (Rws.put (Rws.put (Rws.put HM.out.rws w.heap.size 0 (.slice ao R.length cp) q0) (w.heap.size + 1 + 1) 0 (.slice ao R.length cp) q2) (w.heap.size + 1 + 1) 1 (.func (.func 88) #[] #[]) q2) (w.heap.size + 1 + 1) 2 (.func (.func 89) #[] #[]) q2)
          · have hb2 : w.heap.size ≤ w.heap.size + 1 + 1 := by omega
            exact ((((HKe.out.1.setCell (Nat.le_refl _) _).setCell hb2 _).setCell hb2 _).setCell hb2 _)
        · have HTR1 := hid_intro HTRx.out
          clear HTRx
          unfold maxLen at m2
          go_wp2_with (first | (at_builtin; refine wpList_append_own_none rfl _ _ 22 rfl (w.heap.size + 3) 9 i0 1 Tryd.underlying22 hi _ _ _ rfl HK.out.2.2.2 rfl ?_) | (at_builtin; refine wpList_append_own _ rfl _ _ 22 rfl (w.heap.size + 3) 9 i0 (.string ⟨#[]⟩) 1 16 Tryd.underlying22 hi hz0 hz1 hz2 rfl (by decide) _ _ _ rfl HK.out.2.2.2 ⟨b2, off2, none⟩ rl rc (cellsAll tcells Q) rfl ?l0 ?d0 ?e0 ?f0 ?g0 ?s0 ?_))
          case l0 => first | rfl | (rw [cellsAll_len t_len]; first | rfl | (have := HLn.out; simp; omega) | (have := HRn.out; simp; omega))
          case d0 => exact fun j u hj => by have h := tgs_src HTR1.out HK.out.1 j u hj; first | exact h | (rw [Addr.add_lit] at h; exact h)
          case e0 => exact t_one _
          case f0 => unfold maxLen; have := HLn.out; have := HRn.out; (try simp only [List.length_append, List.length_cons, List.length_nil]); omega
          case g0 => have := HLn.out; have := HRn.out; (try simp only [List.length_append, List.length_cons, List.length_nil]); omega
          case s0 => have := HK.out.2.2.1.1.1; omega
          intro v0 w0 hown hgrow hne
          have HK0 : Hid (KW w ta tl tc (P ++ Q) v0 w0) := hid_intro (KW.appL (w := w) (ta := ta) (tl := tl) (tc := tc) HK.out (by first | exact hown | simpa using hown | (have h := hown; rw [HLn.out] at h; exact h) | (have h := hown; rw [HRn.out] at h; exact h) | (have h := hown; rw [HLn.out] at h; simpa using h) | (have h := hown; rw [HRn.out] at h; simpa using h)) hgrow)
          clear hown hgrow hne
          have HKe := HK0
          rw [show P ++ Q = R from by rw [← HRR.out]; simp] at HKe
          clear HK0
          have ho := HKe.out.2.2.2
          obtain ⟨ao, cp, rfl, hm⟩ := own_made (z := tz) t_len ho
          have HM := hid_intro hm
          have HNE : Hid (R.length = 0 ∨ ∀ b off, ao = some ⟨b, off, none⟩ → w.heap.size + 3 ≤ b) := hid_intro (by
            rcases hm.own with h0 | ⟨g, e1, e2, _⟩
            · exact .inl h0
            · exact .inr (fun b off q => by rw [e1] at q; simp at q; omega))
          clear hm ho
          obtain ⟨⟨xl, xk⟩, xf⟩ := HKe.out.2.1
          have x0 : w0.cell? ⟨w.heap.size, 0, none⟩ = some (.slice ta tl tc) := xk 0 (by simp)
          have x1 : w0.cell? ⟨w.heap.size, 1, none⟩ = some (.func (.func 88) #[] #[]) := xk 1 (by simp)
          have x2 : w0.cell? ⟨w.heap.size, 2, none⟩ = some (.func (.func 89) #[] #[]) := xk 2 (by simp)
          have xf0 : w0.frozen? ⟨w.heap.size, 0, none⟩ = false := xf 0 (by simp)
          obtain ⟨⟨zl, zk⟩, zf⟩ := HKe.out.2.2.1
          have z0 : w0.cell? ⟨w.heap.size + 2, 0, none⟩ = some (.slice none 0 0) := zk 0 (by simp)
          have z1 : w0.cell? ⟨w.heap.size + 2, 1, none⟩ = some .nilFunc := zk 1 (by simp)
          have z2 : w0.cell? ⟨w.heap.size + 2, 2, none⟩ = some .nilFunc := zk 2 (by simp)
          have zf0 : w0.frozen? ⟨w.heap.size + 2, 0, none⟩ = false := zf 0 (by simp)
          have zf1 : w0.frozen? ⟨w.heap.size + 2, 1, none⟩ = false := zf 1 (by simp)
          have zf2 : w0.frozen? ⟨w.heap.size + 2, 2, none⟩ = false := zf 2 (by simp)
          clear xk xf zk zf
          go_wp2_with fail
          refine bodyPost_ret (v := .agg #[.slice ao R.length cp, .func (.func 88) #[] #[], .func (.func 89) #[] #[]]) (by simp [results, Tryd.results78, go_sem, z0, z1, z2]) rfl ?_
          have q3 : R.length = 0 ∨ ∀ b off, ao = some ⟨b, off, none⟩ → w.heap.size ≤ b := HNE.out.imp id (fun h b off e => by have := h b off e; omega)
          first | refine ⟨ao, ⟨cp, rfl⟩, ?_, (by first | exact q3 | simpa using q3), ?_⟩ | refine ⟨ao, cp, rfl, ?_, (by first | exact q3 | simpa using q3), ?_⟩
          · have q0 : R.length = 0 ∨ ∀ b off, ao = some ⟨b, off, none⟩ → b ≠ w.heap.size := HNE.out.imp id (fun h b off e => by have := h b off e; omega)
            have q2 : R.length = 0 ∨ ∀ b off, ao = some ⟨b, off, none⟩ → b ≠ w.heap.size + 1 + 1 := HNE.out.imp id (fun h b off e => by have := h b off e; omega)
            exact (Rws.put (Rws.put (Rws.put (Rws.put HM.out.rws w.heap.size 0 (.slice ao R.length cp) q0) (w.heap.size + 1 + 1) 0 (.slice ao R.length cp) q2) (w.heap.size + 1 + 1) 1 (.func (.func 88) #[] #[]) q2) (w.heap.size + 1 + 1) 2 (.func (.func 89) #[] #[]) q2)
          · have hb2 : w.heap.size ≤ w.heap.size + 1 + 1 := by omega
            exact ((((HKe.out.1.setCell (Nat.le_refl _) _).setCell hb2 _).setCell hb2 _).setCell hb2 _)
      · have HTL1 := hid_intro HTL1x.out
        unfold maxLen at n2
        rcases sr with ⟨rfl, hr0, rfl⟩ | ⟨b2, off2, rfl, m1, m2⟩
        · subst hr0
          obtain rfl : Q = [] := List.length_eq_zero_iff.1 HRn.out.symm
          go_wp2_with (at_builtin; refine wpList_append_own _ rfl _ _ 22 rfl (w.heap.size + 3) 9 i0 (.string ⟨#[]⟩) 1 16 Tryd.underlying22 hi hz0 hz1 hz2 rfl (by decide) _ _ _ rfl HK.out.2.2.2 ⟨b, off, none⟩ 0 lc (cellsAll tcells []) rfl ?l0 ?d0 ?e0 ?f0 ?g0 ?s0 ?_)
          case l0 => first | rfl | (rw [cellsAll_len t_len]; first | rfl | (have := HLn.out; simp; omega) | (have := HRn.out; simp; omega))
          case d0 => exact fun j u hj => by have h := tgs_src HTL1.out HK.out.1 j u hj; first | exact h | (rw [Addr.add_lit] at h; exact h)
          case e0 => exact t_one _
          case f0 => unfold maxLen; have := HLn.out; have := HRn.out; (try simp only [List.length_append, List.length_cons, List.length_nil]); omega
          case g0 => have := HLn.out; have := HRn.out; (try simp only [List.length_append, List.length_cons, List.length_nil]); omega
          case s0 => have := HK.out.2.2.1.1.1; omega
          intro v0 w0 hown hgrow hne
          have HK0 : Hid (KW w ta tl tc (P ++ []) v0 w0) := hid_intro (KW.appL (w := w) (ta := ta) (tl := tl) (tc := tc) HK.out (by first | exact hown | simpa using hown | (have h := hown; rw [HLn.out] at h; exact h) | (have h := hown; rw [HRn.out] at h; exact h) | (have h := hown; rw [HLn.out] at h; simpa using h) | (have h := hown; rw [HRn.out] at h; simpa using h)) hgrow)
          clear hown hgrow hne
          have HKe := HK0
          rw [show P ++ [] = R from by rw [← HRR.out]; simp] at HKe
          clear HK0
          have ho := HKe.out.2.2.2
          obtain ⟨ao, cp, rfl, hm⟩ := own_made (z := tz) t_len ho
          have HM := hid_intro hm
          have HNE : Hid (R.length = 0 ∨ ∀ b off, ao = some ⟨b, off, none⟩ → w.heap.size + 3 ≤ b) := hid_intro (by
            rcases hm.own with h0 | ⟨g, e1, e2, _⟩
            · exact .inl h0
            · exact .inr (fun b off q => by rw [e1] at q; simp at q; omega))
          clear hm ho
          obtain ⟨⟨xl, xk⟩, xf⟩ := HKe.out.2.1
          have x0 : w0.cell? ⟨w.heap.size, 0, none⟩ = some (.slice ta tl tc) := xk 0 (by simp)
          have x1 : w0.cell? ⟨w.heap.size, 1, none⟩ = some (.func (.func 88) #[] #[]) := xk 1 (by simp)
          have x2 : w0.cell? ⟨w.heap.size, 2, none⟩ = some (.func (.func 89) #[] #[]) := xk 2 (by simp)
          have xf0 : w0.frozen? ⟨w.heap.size, 0, none⟩ = false := xf 0 (by simp)
          obtain ⟨⟨zl, zk⟩, zf⟩ := HKe.out.2.2.1
          have z0 : w0.cell? ⟨w.heap.size + 2, 0, none⟩ = some (.slice none 0 0) := zk 0 (by simp)
          have z1 : w0.cell? ⟨w.heap.size + 2, 1, none⟩ = some .nilFunc := zk 1 (by simp)
          have z2 : w0.cell? ⟨w.heap.size + 2, 2, none⟩ = some .nilFunc := zk 2 (by simp)
          have zf0 : w0.frozen? ⟨w.heap.size + 2, 0, none⟩ = false := zf 0 (by simp)
          have zf1 : w0.frozen? ⟨w.heap.size + 2, 1, none⟩ = false := zf 1 (by simp)
          have zf2 : w0.frozen? ⟨w.heap.size + 2, 2, none⟩ = false := zf 2 (by simp)
          clear xk xf zk zf
          go_wp2_with (at_builtin; refine wpList_append_own_none rfl _ _ 22 rfl (w.heap.size + 3) 9 i0 1 Tryd.underlying22 hi _ _ _ rfl HKe.out.2.2.2 rfl ?_)
          refine bodyPost_ret (v := .agg #[.slice ao R.length cp, .func (.func 88) #[] #[], .func (.func 89) #[] #[]]) (by simp [results, Tryd.results78, go_sem, z0, z1, z2]) rfl ?_
          have q3 : R.length = 0 ∨ ∀ b off, ao = some ⟨b, off, none⟩ → w.heap.size ≤ b := HNE.out.imp id (fun h b off e => by have := h b off e; omega)
          first | refine ⟨ao, ⟨cp, rfl⟩, ?_, (by first | exact q3 | simpa using q3), ?_⟩ | refine ⟨ao, cp, rfl, ?_, (by first | exact q3 | simpa using q3), ?_⟩
          · have q0 : R.length = 0 ∨ ∀ b off, ao = some ⟨b, off, none⟩ → b ≠ w.heap.size := HNE.out.imp id (fun h b off e => by have := h b off e; omega)
            have q2 : R.length = 0 ∨ ∀ b off, ao = some ⟨b, off, none⟩ → b ≠ w.heap.size + 1 + 1 := HNE.out.imp id (fun h b off e => by have := h b off e; omega)
            exact (Rws.put (Rws.put (Rws.put (Rws.put HM.out.rws w.heap.size 0 (.slice ao R.length cp) q0) (w.heap.size + 1 + 1) 0 (.slice ao R.length cp) q2) (w.heap.size + 1 + 1) 1 (.func (.func 88) #[] #[]) q2) (w.heap.size + 1 + 1) 2 (.func (.func 89) #[] #[]) q2)
          · have hb2 : w.heap.size ≤ w.heap.size + 1 + 1 := by omega
            exact ((((HKe.out.1.setCell (Nat.le_refl _) _).setCell hb2 _).setCell hb2 _).setCell hb2 _)
        · have HTR1 := hid_intro HTRx.out
          clear HTRx
          unfold maxLen at m2
          go_wp2_with (at_builtin; refine wpList_append_own _ rfl _ _ 22 rfl (w.heap.size + 3) 9 i0 (.string ⟨#[]⟩) 1 16 Tryd.underlying22 hi hz0 hz1 hz2 rfl (by decide) _ _ _ rfl HK.out.2.2.2 ⟨b, off, none⟩ 0 lc (cellsAll tcells []) rfl ?l0 ?d0 ?e0 ?f0 ?g0 ?s0 ?_)
          case l0 => first | rfl | (rw [cellsAll_len t_len]; first | rfl | (have := HLn.out; simp; omega) | (have := HRn.out; simp; omega))
          case d0 => exact fun j u hj => by have h := tgs_src HTL1.out HK.out.1 j u hj; first | exact h | (rw [Addr.add_lit] at h; exact h)
          case e0 => exact t_one _
          case f0 => unfold maxLen; have := HLn.out; have := HRn.out; (try simp only [List.length_append, List.length_cons, List.length_nil]); omega
          case g0 => have := HLn.out; have := HRn.out; (try simp only [List.length_append, List.length_cons, List.length_nil]); omega
          case s0 => have := HK.out.2.2.1.1.1; omega
          intro v0 w0 hown hgrow hne
          have HK0 : Hid (KW w ta tl tc (P ++ []) v0 w0) := hid_intro (KW.appL (w := w) (ta := ta) (tl := tl) (tc := tc) HK.out (by first | exact hown | simpa using hown | (have h := hown; rw [HLn.out] at h; exact h) | (have h := hown; rw [HRn.out] at h; exact h) | (have h := hown; rw [HLn.out] at h; simpa using h) | (have h := hown; rw [HRn.out] at h; simpa using h)) hgrow)
          clear hown hgrow hne
          go_wp2_with (at_builtin; refine wpList_append_own _ rfl _ _ 22 rfl (w.heap.size + 3) 9 i0 (.string ⟨#[]⟩) 1 16 Tryd.underlying22 hi hz0 hz1 hz2 rfl (by decide) _ _ _ rfl HK0.out.2.2.2 ⟨b2, off2, none⟩ rl rc (cellsAll tcells Q) rfl ?l1 ?d1 ?e1 ?f1 ?g1 ?s1 ?_)
          case l1 => first | rfl | (rw [cellsAll_len t_len]; first | rfl | (have := HLn.out; simp; omega) | (have := HRn.out; simp; omega))
          case d1 => exact fun j u hj => by have h := tgs_src HTR1.out HK0.out.1 j u hj; first | exact h | (rw [Addr.add_lit] at h; exact h)
          case e1 => exact t_one _
          case f1 => unfold maxLen; have := HLn.out; have := HRn.out; (try simp only [List.length_append, List.length_cons, List.length_nil]); omega
          case g1 => have := HLn.out; have := HRn.out; (try simp only [List.length_append, List.length_cons, List.length_nil]); omega
          case s1 => have := HK0.out.2.2.1.1.1; omega
          intro v1 w1 hown hgrow hne
          have HK1 : Hid (KW w ta tl tc ((P ++ []) ++ Q) v1 w1) := hid_intro (KW.appL (w := w) (ta := ta) (tl := tl) (tc := tc) HK0.out (by first | exact hown | simpa using hown | (have h := hown; rw [HLn.out] at h; exact h) | (have h := hown; rw [HRn.out] at h; exact h) | (have h := hown; rw [HLn.out] at h; simpa using h) | (have h := hown; rw [HRn.out] at h; simpa using h)) hgrow)
          clear hown hgrow hne
          have HKe := HK1
          rw [HRR.out] at HKe
          clear HK1
          have ho := HKe.out.2.2.2
          obtain ⟨ao, cp, rfl, hm⟩ := own_made (z := tz) t_len ho
          have HM := hid_intro hm
          have HNE : Hid (R.length = 0 ∨ ∀ b off, ao = some ⟨b, off, none⟩ → w.heap.size + 3 ≤ b) := hid_intro (by
            rcases hm.own with h0 | ⟨g, e1, e2, _⟩
            · exact .inl h0
            · exact .inr (fun b off q => by rw [e1] at q; simp at q; omega))
          clear hm ho
          obtain ⟨⟨xl, xk⟩, xf⟩ := HKe.out.2.1
          have x0 : w1.cell? ⟨w.heap.size, 0, none⟩ = some (.slice ta tl tc) := xk 0 (by simp)
          have x1 : w1.cell? ⟨w.heap.size, 1, none⟩ = some (.func (.func 88) #[] #[]) := xk 1 (by simp)
          have x2 : w1.cell? ⟨w.heap.size, 2, none⟩ = some (.func (.func 89) #[] #[]) := xk 2 (by simp)
          have xf0 : w1.frozen? ⟨w.heap.size, 0, none⟩ = false := xf 0 (by simp)
          obtain ⟨⟨zl, zk⟩, zf⟩ := HKe.out.2.2.1
          have z0 : w1.cell? ⟨w.heap.size + 2, 0, none⟩ = some (.slice none 0 0) := zk 0 (by simp)
          have z1 : w1.cell? ⟨w.heap.size + 2, 1, none⟩ = some .nilFunc := zk 1 (by simp)
          have z2 : w1.cell? ⟨w.heap.size + 2, 2, none⟩ = some .nilFunc := zk 2 (by simp)
          have zf0 : w1.frozen? ⟨w.heap.size + 2, 0, none⟩ = false := zf 0 (by simp)
          have zf1 : w1.frozen? ⟨w.heap.size + 2, 1, none⟩ = false := zf 1 (by simp)
          have zf2 : w1.frozen? ⟨w.heap.size + 2, 2, none⟩ = false := zf 2 (by simp)
          clear xk xf zk zf
          go_wp2_with fail
          refine bodyPost_ret (v := .agg #[.slice ao R.length cp, .func (.func 88) #[] #[], .func (.func 89) #[] #[]]) (by simp [results, Tryd.results78, go_sem, z0, z1, z2]) rfl ?_
          have q3 : R.length = 0 ∨ ∀ b off, ao = some ⟨b, off, none⟩ → w.heap.size ≤ b := HNE.out.imp id (fun h b off e => by have := h b off e; omega)
          first | refine ⟨ao, ⟨cp, rfl⟩, ?_, (by first | exact q3 | simpa using q3), ?_⟩ | refine ⟨ao, cp, rfl, ?_, (by first | exact q3 | simpa using q3), ?_⟩
          · have q0 : R.length = 0 ∨ ∀ b off, ao = some ⟨b, off, none⟩ → b ≠ w.heap.size := HNE.out.imp id (fun h b off e => by have := h b off e; omega)
            have q2 : R.length = 0 ∨ ∀ b off, ao = some ⟨b, off, none⟩ → b ≠ w.heap.size + 1 + 1 := HNE.out.imp id (fun h b off e => by have := h b off e; omega)
            exact (Rws.put (Rws.put (Rws.put (Rws.put HM.out.rws w.heap.size 0 (.slice ao R.length cp) q0) (w.heap.size + 1 + 1) 0 (.slice ao R.length cp) q2) (w.heap.size + 1 + 1) 1 (.func (.func 88) #[] #[]) q2) (w.heap.size + 1 + 1) 2 (.func (.func 89) #[] #[]) q2)
          · have hb2 : w.heap.size ≤ w.heap.size + 1 + 1 := by omega
            exact ((((HKe.out.1.setCell (Nat.le_refl _) _).setCell hb2 _).setCell hb2 _).setCell hb2 _)
    | cons X L =>
    cases Q with
    | nil =>
      have HRR : Hid (P ++ (X :: L) ++ [] = R) := hid_intro (by rw [← HR.out, List.append_nil]; simp [mrg])
      have HTL1x := hid_intro hl
      obtain ⟨ll, hll⟩ : ∃ ll, ll = L.length := ⟨_, rfl⟩
      have HLn := hid_intro hll
      have HRn : Hid (0 = 0) := hid_intro rfl
      simp only [List.length_nil, List.length_cons] at hN sl sr ⊢
      rw [← hll] at hN sl ⊢
      have HTR1x := hid_intro hr
      clear HL HQ hl hr hll
      have p1 : (0 : Int) < ((ll + 1 : Nat) : Int) := by omega
      rcases sl with ⟨rfl, h0, _⟩ | ⟨b, off, rfl, n1, n2⟩
      · omega
      · have HTL1 := hid_intro HTL1x.out
        unfold maxLen at n2
        rcases sr with ⟨rfl, _, rfl⟩ | ⟨b2, off2, rfl, m1, m2⟩
        · go_wp2_with (at_builtin; refine wpList_append_own _ rfl _ _ 22 rfl (w.heap.size + 3) 9 i0 (.string ⟨#[]⟩) 1 16 Tryd.underlying22 hi hz0 hz1 hz2 rfl (by decide) _ _ _ rfl HK.out.2.2.2 ⟨b, off, none⟩ (ll + 1) lc (cellsAll tcells (X :: L)) rfl ?l0 ?d0 ?e0 ?f0 ?g0 ?s0 ?_)
          case l0 => first | rfl | (rw [cellsAll_len t_len]; first | rfl | (have := HLn.out; simp; omega) | (have := HRn.out; simp; omega))
          case d0 => exact fun j u hj => by have h := tgs_src HTL1.out HK.out.1 j u hj; first | exact h | (rw [Addr.add_lit] at h; exact h)
          case e0 => exact t_one _
          case f0 => unfold maxLen; have := HLn.out; have := HRn.out; (try simp only [List.length_append, List.length_cons, List.length_nil]); omega
          case g0 => have := HLn.out; have := HRn.out; (try simp only [List.length_append, List.length_cons, List.length_nil]); omega
          case s0 => have := HK.out.2.2.1.1.1; omega
          intro v0 w0 hown hgrow hne
          have HK0 : Hid (KW w ta tl tc (P ++ (X :: L)) v0 w0) := hid_intro (KW.appL (w := w) (ta := ta) (tl := tl) (tc := tc) HK.out (by first | exact hown | simpa using hown | (have h := hown; rw [HLn.out] at h; exact h) | (have h := hown; rw [HRn.out] at h; exact h) | (have h := hown; rw [HLn.out] at h; simpa using h) | (have h := hown; rw [HRn.out] at h; simpa using h)) hgrow)
          clear hown hgrow hne
          have HKe := HK0
          rw [show P ++ (X :: L) = R from by rw [← HRR.out]; simp] at HKe
          clear HK0
          have ho := HKe.out.2.2.2
          obtain ⟨ao, cp, rfl, hm⟩ := own_made (z := tz) t_len ho
          have HM := hid_intro hm
          have HNE : Hid (R.length = 0 ∨ ∀ b off, ao = some ⟨b, off, none⟩ → w.heap.size + 3 ≤ b) := hid_intro (by
            rcases hm.own with h0 | ⟨g, e1, e2, _⟩
            · exact .inl h0
            · exact .inr (fun b off q => by rw [e1] at q; simp at q; omega))
          clear hm ho
          obtain ⟨⟨xl, xk⟩, xf⟩ := HKe.out.2.1
          have x0 : w0.cell? ⟨w.heap.size, 0, none⟩ = some (.slice ta tl tc) := xk 0 (by simp)
          have x1 : w0.cell? ⟨w.heap.size, 1, none⟩ = some (.func (.func 88) #[] #[]) := xk 1 (by simp)
          have x2 : w0.cell? ⟨w.heap.size, 2, none⟩ = some (.func (.func 89) #[] #[]) := xk 2 (by simp)
          have xf0 : w0.frozen? ⟨w.heap.size, 0, none⟩ = false := xf 0 (by simp)
          obtain ⟨⟨zl, zk⟩, zf⟩ := HKe.out.2.2.1
          have z0 : w0.cell? ⟨w.heap.size + 2, 0, none⟩ = some (.slice none 0 0) := zk 0 (by simp)
          have z1 : w0.cell? ⟨w.heap.size + 2, 1, none⟩ = some .nilFunc := zk 1 (by simp)
          have z2 : w0.cell? ⟨w.heap.size + 2, 2, none⟩ = some .nilFunc := zk 2 (by simp)
          have zf0 : w0.frozen? ⟨w.heap.size + 2, 0, none⟩ = false := zf 0 (by simp)
          have zf1 : w0.frozen? ⟨w.heap.size + 2, 1, none⟩ = false := zf 1 (by simp)
          have zf2 : w0.frozen? ⟨w.heap.size + 2, 2, none⟩ = false := zf 2 (by simp)
          clear xk xf zk zf
          go_wp2_with (at_builtin; refine wpList_append_own_none rfl _ _ 22 rfl (w.heap.size + 3) 9 i0 1 Tryd.underlying22 hi _ _ _ rfl HKe.out.2.2.2 rfl ?_)
          refine bodyPost_ret (v := .agg #[.slice ao R.length cp, .func (.func 88) #[] #[], .func (.func 89) #[] #[]]) (by simp [results, Tryd.results78, go_sem, z0, z1, z2]) rfl ?_
          have q3 : R.length = 0 ∨ ∀ b off, ao = some ⟨b, off, none⟩ → w.heap.size ≤ b := HNE.out.imp id (fun h b off e => by have := h b off e; omega)
          first | refine ⟨ao, ⟨cp, rfl⟩, ?_, (by first | exact q3 | simpa using q3), ?_⟩ | refine ⟨ao, cp, rfl, ?_, (by first | exact q3 | simpa using q3), ?_⟩
          · have q0 : R.length = 0 ∨ ∀ b off, ao = some ⟨b, off, none⟩ → b ≠ w.heap.size := HNE.out.imp id (fun h b off e => by have := h b off e; omega)
            have q2 : R.length = 0 ∨ ∀ b off, ao = some ⟨b, off, none⟩ → b ≠ w.heap.size + 1 + 1 := HNE.out.imp id (fun h b off e => by have := h b off e; omega)
            exact (Rws.put (Rws.put (Rws.put (Rws.put HM.out.rws w.heap.size 0 (.slice ao R.length cp) q0) (w.heap.size + 1 + 1) 0 (.slice ao R.length cp) q2) (w.heap.size + 1 + 1) 1 (.func (.func 88) #[] #[]) q2) (w.heap.size + 1 + 1) 2 (.func (.func 89) #[] #[]) q2)
          · have hb2 : w.heap.size ≤ w.heap.size + 1 + 1 := by omega
            exact ((((HKe.out.1.setCell (Nat.le_refl _) _).setCell hb2 _).setCell hb2 _).setCell hb2 _)
        · have HTR1 := hid_intro HTR1x.out
          unfold maxLen at m2
          go_wp2_with (at_builtin; refine wpList_append_own _ rfl _ _ 22 rfl (w.heap.size + 3) 9 i0 (.string ⟨#[]⟩) 1 16 Tryd.underlying22 hi hz0 hz1 hz2 rfl (by decide) _ _ _ rfl HK.out.2.2.2 ⟨b, off, none⟩ (ll + 1) lc (cellsAll tcells (X :: L)) rfl ?l0 ?d0 ?e0 ?f0 ?g0 ?s0 ?_)
          case l0 => first | rfl | (rw [cellsAll_len t_len]; first | rfl | (have := HLn.out; simp; omega) | (have := HRn.out; simp; omega))
          case d0 => exact fun j u hj => by have h := tgs_src HTL1.out HK.out.1 j u hj; first | exact h | (rw [Addr.add_lit] at h; exact h)
          case e0 => exact t_one _
          case f0 => unfold maxLen; have := HLn.out; have := HRn.out; (try simp only [List.length_append, List.length_cons, List.length_nil]); omega
          case g0 => have := HLn.out; have := HRn.out; (try simp only [List.length_append, List.length_cons, List.length_nil]); omega
          case s0 => have := HK.out.2.2.1.1.1; omega
          intro v0 w0 hown hgrow hne
          have HK0 : Hid (KW w ta tl tc (P ++ (X :: L)) v0 w0) := hid_intro (KW.appL (w := w) (ta := ta) (tl := tl) (tc := tc) HK.out (by first | exact hown | simpa using hown | (have h := hown; rw [HLn.out] at h; exact h) | (have h := hown; rw [HRn.out] at h; exact h) | (have h := hown; rw [HLn.out] at h; simpa using h) | (have h := hown; rw [HRn.out] at h; simpa using h)) hgrow)
          clear hown hgrow hne
          go_wp2_with (at_builtin; refine wpList_append_own _ rfl _ _ 22 rfl (w.heap.size + 3) 9 i0 (.string ⟨#[]⟩) 1 16 Tryd.underlying22 hi hz0 hz1 hz2 rfl (by decide) _ _ _ rfl HK0.out.2.2.2 ⟨b2, off2, none⟩ 0 rc (cellsAll tcells []) rfl ?l1 ?d1 ?e1 ?f1 ?g1 ?s1 ?_)
          case l1 => first | rfl | (rw [cellsAll_len t_len]; first | rfl | (have := HLn.out; simp; omega) | (have := HRn.out; simp; omega))
          case d1 => exact fun j u hj => by have h := tgs_src HTR1.out HK0.out.1 j u hj; first | exact h | (rw [Addr.add_lit] at h; exact h)
          case e1 => exact t_one _
          case f1 => unfold maxLen; have := HLn.out; have := HRn.out; (try simp only [List.length_append, List.length_cons, List.length_nil]); omega
          case g1 => have := HLn.out; have := HRn.out; (try simp only [List.length_append, List.length_cons, List.length_nil]); omega
          case s1 => have := HK0.out.2.2.1.1.1; omega
          intro v1 w1 hown hgrow hne
          have HK1 : Hid (KW w ta tl tc ((P ++ (X :: L)) ++ []) v1 w1) := hid_intro (KW.appL (w := w) (ta := ta) (tl := tl) (tc := tc) HK0.out (by first | exact hown | simpa using hown | (have h := hown; rw [HLn.out] at h; exact h) | (have h := hown; rw [HRn.out] at h; exact h) | (have h := hown; rw [HLn.out] at h; simpa using h) | (have h := hown; rw [HRn.out] at h; simpa using h)) hgrow)
          clear hown hgrow hne
          have HKe := HK1
          rw [HRR.out] at HKe
          clear HK1
          have ho := HKe.out.2.2.2
          obtain ⟨ao, cp, rfl, hm⟩ := own_made (z := tz) t_len ho
          have HM := hid_intro hm
          have HNE : Hid (R.length = 0 ∨ ∀ b off, ao = some ⟨b, off, none⟩ → w.heap.size + 3 ≤ b) := hid_intro (by
            rcases hm.own with h0 | ⟨g, e1, e2, _⟩
            · exact .inl h0
            · exact .inr (fun b off q => by rw [e1] at q; simp at q; omega))
          clear hm ho
          obtain ⟨⟨xl, xk⟩, xf⟩ := HKe.out.2.1
          have x0 : w1.cell? ⟨w.heap.size, 0, none⟩ = some (.slice ta tl tc) := xk 0 (by simp)
          have x1 : w1.cell? ⟨w.heap.size, 1, none⟩ = some (.func (.func 88) #[] #[]) := xk 1 (by simp)
          have x2 : w1.cell? ⟨w.heap.size, 2, none⟩ = some (.func (.func 89) #[] #[]) := xk 2 (by simp)
          have xf0 : w1.frozen? ⟨w.heap.size, 0, none⟩ = false := xf 0 (by simp)
          obtain ⟨⟨zl, zk⟩, zf⟩ := HKe.out.2.2.1
          have z0 : w1.cell? ⟨w.heap.size + 2, 0, none⟩ = some (.slice none 0 0) := zk 0 (by simp)
          have z1 : w1.cell? ⟨w.heap.size + 2, 1, none⟩ = some .nilFunc := zk 1 (by simp)
          have z2 : w1.cell? ⟨w.heap.size + 2, 2, none⟩ = some .nilFunc := zk 2 (by simp)
          have zf0 : w1.frozen? ⟨w.heap.size + 2, 0, none⟩ = false := zf 0 (by simp)
          have zf1 : w1.frozen? ⟨w.heap.size + 2, 1, none⟩ = false := zf 1 (by simp)
          have zf2 : w1.frozen? ⟨w.heap.size + 2, 2, none⟩ = false := zf 2 (by simp)
          clear xk xf zk zf
          go_wp2_with fail
          refine bodyPost_ret (v := .agg #[.slice ao R.length cp, .func (.func 88) #[] #[], .func (.func 89) #[] #[]]) (by simp [results, Tryd.results78, go_sem, z0, z1, z2]) rfl ?_
          have q3 : R.length = 0 ∨ ∀ b off, ao = some ⟨b, off, none⟩ → w.heap.size ≤ b := HNE.out.imp id (fun h b off e => by have := h b off e; omega)
          first | refine ⟨ao, ⟨cp, rfl⟩, ?_, (by first | exact q3 | simpa using q3), ?_⟩ | refine ⟨ao, cp, rfl, ?_, (by first | exact q3 | simpa using q3), ?_⟩
          · have q0 : R.length = 0 ∨ ∀ b off, ao = some ⟨b, off, none⟩ → b ≠ w.heap.size := HNE.out.imp id (fun h b off e => by have := h b off e; omega)
            have q2 : R.length = 0 ∨ ∀ b off, ao = some ⟨b, off, none⟩ → b ≠ w.heap.size + 1 + 1 := HNE.out.imp id (fun h b off e => by have := h b off e; omega)
            exact (Rws.put (Rws.put (Rws.put (Rws.put HM.out.rws w.heap.size 0 (.slice ao R.length cp) q0) (w.heap.size + 1 + 1) 0 (.slice ao R.length cp) q2) (w.heap.size + 1 + 1) 1 (.func (.func 88) #[] #[]) q2) (w.heap.size + 1 + 1) 2 (.func (.func 89) #[] #[]) q2)
          · have hb2 : w.heap.size ≤ w.heap.size + 1 + 1 := by omega
            exact ((((HKe.out.1.setCell (Nat.le_refl _) _).setCell hb2 _).setCell hb2 _).setCell hb2 _)
    | cons Y Q =>
      obtain ⟨b, off, rfl, hbl, cx, n1, n2, k1, k2⟩ := Lst.tail sl hl
      obtain ⟨b2, off2, rfl, hb2, cy, m1, m2, j1, j2⟩ := Lst.tail sr hr
      have KL1 := hid_intro k1
      have KL2 := hid_intro k2
      have KR1 := hid_intro j1
      have KR2 := hid_intro j2
      have HCX : Hid (∀ W, Below w.heap.size w W → b < W.heap.size ∧ W.cell? ⟨b, off, none⟩ = some (.string X)) := hid_intro (fun W hW => ⟨Nat.lt_of_lt_of_le hbl hW.size, (hW.cell (p := ⟨b, off, none⟩) hbl).trans cx⟩)
      have HCY : Hid (∀ W, Below w.heap.size w W → b2 < W.heap.size ∧ W.cell? ⟨b2, off2, none⟩ = some (.string Y)) := hid_intro (fun W hW => ⟨Nat.lt_of_lt_of_le hb2 hW.size, (hW.cell (p := ⟨b2, off2, none⟩) hb2).trans cy⟩)
      have HLL := hid_intro HL.out
      have HQQ := hid_intro HQ.out
      simp only [List.length_cons] at hN HLL HQQ ⊢
      obtain ⟨ll, hll⟩ : ∃ ll, ll = L.length := ⟨_, rfl⟩
      obtain ⟨rl, hrl⟩ : ∃ rl, rl = Q.length := ⟨_, rfl⟩
      have HLn := hid_intro hll
      have HRn := hid_intro hrl
      rw [← hll] at n1 hN KL2 HLL ⊢
      rw [← hrl] at m1 hN KR2 HQQ ⊢
      clear hll hrl k1 k2 j1 j2 sl sr hl hr HL HQ cx cy hbl hb2
      unfold maxLen at n2 m2
      have sz1 : P.length + 1 ≤ maxLen := by unfold maxLen; omega
      have sz2 : (P.length + 1) * 16 ≤ 140737488355328 := by omega
      have sz3 : 0 < 1 := by omega
      obtain ⟨gx, cX⟩ := HCX.out wr HK.out.1
      obtain ⟨gy, cY⟩ := HCY.out wr HK.out.1
      have p1 : (0 : Int) < ((ll + 1 : Nat) : Int) := by omega
      have p2 : (0 : Int) < ((rl + 1 : Nat) : Int) := by omega
      cases hlt : lt X Y
      · cases hgt : lt Y X
        · have hcm : cmpT X Y = 0 := by unfold cmpT; rw [hlt, hgt]; rfl
          have HMG : Hid (mrg lt fstT (X :: L) (Y :: Q) = X :: mrg lt fstT L Q) := hid_intro (by rw [mrg, if_neg (by rw [hlt]; simp), if_neg (by rw [hgt]; simp)]; rfl)
          have HC : Hid (∀ w, Calls Tryd.prog 105 #[.string X, .string Y] w fun e w' => e = .returned (.int .i64 (0)) ∧ w' = w) := hid_intro (fun w => by have h := cmpS X Y w; rw [hcm] at h; exact h)
          clear hcm
          try clear hlt
          try clear hgt
          go_wp2_with fail
          go_quiet (fail)
          go_wp2_with fail
          obtain ⟨W1, hW1⟩ : ∃ W1, W1 = wr.drewN nq := ⟨_, rfl⟩
          rw [← hW1]
          have HK1 : Hid (KW w ta tl tc P bv W1) := hid_intro (by rw [hW1]; exact KW.below (w := w) (ta := ta) (tl := tl) (tc := tc) HK.out (bdN2 (Below.refl _ _) _))
          clear hW1 HK gx gy cX cY
          have x1 : W1.cell? ⟨w.heap.size, 1, none⟩ = some (.func (.func 88) #[] #[]) := HK1.out.2.1.1.2 1 (by simp)
          have xl := HK1.out.2.1.1.1
          go_quiet ((first | (go_at_call 88; exact Calls.quiet_of_same (HKEY.out _ _)) | (go_at_call 105; exact Calls.quiet_of_same (HC.out _))))
          go_wp2_with fail
          obtain ⟨W2, hW2⟩ : ∃ W2, W2 = W1.drewN nq := ⟨_, rfl⟩
          rw [← hW2]
          have HK2 : Hid (KW w ta tl tc P bv W2) := hid_intro (by rw [hW2]; exact KW.below (w := w) (ta := ta) (tl := tl) (tc := tc) HK1.out (bdN2 (Below.refl _ _) _))
          clear hW2 HK1 x1 xl HC
          by_cases hlc : lc = 1
          · have hl1 : lc = 1 := hlc
            obtain rfl : ll = 0 := by omega
            subst hl1
            by_cases hrc : rc = 1
            · have hr1 : rc = 1 := hrc
              obtain rfl : rl = 0 := by omega
              subst hr1
              have HS0 : Hid (KW w ta tl tc P bv W2.drew) := hid_intro (KW.below (w := w) (ta := ta) (tl := tl) (tc := tc) HK2.out (Below.refl _ _).drew)
              clear HK2
              refine wp_region_held_drew (S := (fun W => Below w.heap.size w W ∧ w.heap.size < W.heap.size ∧ W.cell? ⟨w.heap.size, 2, none⟩ = some (.func (.func 89) #[] #[]))) (by kernel_rfl) ⟨HS0.out.1, HS0.out.2.1.1.1, HS0.out.2.1.1.2 2 (by simp)⟩ (fun hHeld => ?_)
              obtain ⟨Wd, hWd⟩ : ∃ Wd, Wd = W2.drew := ⟨_, rfl⟩
              rw [← hWd] at HS0 ⊢
              try rw [← hWd] at hHeld
              clear hWd
              refine wpAnyH_take (i := 0) (oi := { dst := some 38, op := Op.move (Operand.tmp 5), type := 22, pos := "l07_window.go:74", after := #[], guard := none }) (v := ?_) rfl (by kernel_rfl) (by kernel_rfl) (by kernel_rfl) (fun _ _ _ h => h) (Or.inl ⟨by rfl, ?_⟩) (by assumption) ?_
              rotate_left
              · (intro w hSw; (try dsimp only at hSw); go_simp) <;> with_reducible rfl
              try simp only [Act.put, List.setIfInBounds_toArray, List.set_cons_zero, List.set_cons_succ]
              refine wpAnyH_take (i := 1) (oi := { dst := some 39, op := Op.fieldAddr 91 (Operand.tmp 2) 2, type := 0, pos := "l07_window.go:74", after := #[], guard := none }) (v := ?_) rfl (by kernel_rfl) (by kernel_rfl) (by kernel_rfl) (fun _ _ _ h => h) (Or.inl ⟨by rfl, ?_⟩) (by assumption) ?_
              rotate_left
              · (intro w hSw; (try dsimp only at hSw); go_simp) <;> with_reducible rfl
              try simp only [Act.put, List.setIfInBounds_toArray, List.set_cons_zero, List.set_cons_succ]
              refine wpAnyH_take (i := 2) (oi := { dst := some 40, op := Op.load 89 (Operand.tmp 39), type := 89, pos := "l07_window.go:74", after := #[{ on := 1, ground := Ground.data }], guard := none }) (v := ?_) rfl (by kernel_rfl) (by kernel_rfl) (by kernel_rfl) (fun _ _ _ h => h) (Or.inl ⟨by rfl, ?_⟩) (by assumption) ?_
              rotate_left
              · (intro w hSw; (try dsimp only at hSw); go_simp) <;> with_reducible rfl
              try simp only [Act.put, List.setIfInBounds_toArray, List.set_cons_zero, List.set_cons_succ]
              refine wpAnyH_take (i := 3) (oi := { dst := some 41, op := Op.move (Operand.tmp 8), type := 9, pos := "l07_window.go:74", after := #[], guard := none }) (v := ?_) rfl (by kernel_rfl) (by kernel_rfl) (by kernel_rfl) (fun _ _ _ h => h) (Or.inl ⟨by rfl, ?_⟩) (by assumption) ?_
              rotate_left
              · (intro w hSw; (try dsimp only at hSw); go_simp) <;> with_reducible rfl
              try simp only [Act.put, List.setIfInBounds_toArray, List.set_cons_zero, List.set_cons_succ]
              refine wpAnyH_take (i := 4) (oi := { dst := some 42, op := Op.move (Operand.tmp 9), type := 9, pos := "l07_window.go:74", after := #[], guard := none }) (v := ?_) rfl (by kernel_rfl) (by kernel_rfl) (by kernel_rfl) (fun _ _ _ h => h) (Or.inl ⟨by rfl, ?_⟩) (by assumption) ?_
              rotate_left
              · (intro w hSw; (try dsimp only at hSw); go_simp) <;> with_reducible rfl
              try simp only [Act.put, List.setIfInBounds_toArray, List.set_cons_zero, List.set_cons_succ]
              refine wpAnyH_take (i := 8) (oi := { dst := some 46, op := Op.move (Operand.tmp 6), type := 22, pos := "l07_window.go:74", after := #[], guard := none }) (v := ?_) rfl (by kernel_rfl) (by kernel_rfl) (by kernel_rfl) (fun _ _ _ h => h) (Or.inl ⟨by rfl, ?_⟩) (by assumption) ?_
              rotate_left
              · (intro w hSw; (try dsimp only at hSw); go_simp) <;> with_reducible rfl
              try simp only [Act.put, List.setIfInBounds_toArray, List.set_cons_zero, List.set_cons_succ]
              refine wpAnyH_take (i := 9) (oi := { dst := some 47, op := Op.slice 22 (Operand.tmp 46) (some (Operand.const (Value.int IntKind.i64 1))) none none, type := 22, pos := "l07_window.go:74", after := #[{ on := 8, ground := Ground.data }], guard := none }) (v := ?_) rfl (by kernel_rfl) (by kernel_rfl) (by kernel_rfl) (fun _ _ _ h => h) (Or.inl ⟨by rfl, ?_⟩) (by assumption) ?_
              rotate_left
              · (intro w hSw; (try dsimp only at hSw); go_simp) <;> with_reducible rfl
              try simp only [Act.put, List.setIfInBounds_toArray, List.set_cons_zero, List.set_cons_succ]
              refine wpAnyH_take (i := 10) (oi := { dst := some 48, op := Op.move (Operand.tmp 7), type := 22, pos := "l07_window.go:74", after := #[], guard := none }) (v := ?_) rfl (by kernel_rfl) (by kernel_rfl) (by kernel_rfl) (fun _ _ _ h => h) (Or.inl ⟨by rfl, ?_⟩) (by assumption) ?_
              rotate_left
              · (intro w hSw; (try dsimp only at hSw); go_simp) <;> with_reducible rfl
              try simp only [Act.put, List.setIfInBounds_toArray, List.set_cons_zero, List.set_cons_succ]
              refine wpAnyH_take (i := 11) (oi := { dst := some 49, op := Op.slice 22 (Operand.tmp 48) (some (Operand.const (Value.int IntKind.i64 1))) none none, type := 22, pos := "l07_window.go:74", after := #[{ on := 10, ground := Ground.data }], guard := none }) (v := ?_) rfl (by kernel_rfl) (by kernel_rfl) (by kernel_rfl) (fun _ _ _ h => h) (Or.inl ⟨by rfl, ?_⟩) (by assumption) ?_
              rotate_left
              · (intro w hSw; (try dsimp only at hSw); go_simp) <;> with_reducible rfl
              try simp only [Act.put, List.setIfInBounds_toArray, List.set_cons_zero, List.set_cons_succ]
              refine wpAnyH_ready (rs := [5]) (by kernel_rfl) (by simp) ?_
              refine AllReadyH.cons (o := { dst := some 43, op := Op.call { callee := Callee.value (Operand.tmp 40), args := #[Operand.tmp 41, Operand.tmp 42], argTypes := #[9, 9] }, type := 9, pos := "l07_window.go:74", after := #[{ on := 2, ground := Ground.data }, { on := 3, ground := Ground.data }, { on := 4, ground := Ground.data }], guard := none }) rfl (fun K hK => ?_) AllReadyH.nil
              go_simp
              go_at_call 89
              refine (tmeet X Y _).mono ?_
              rintro e wh ⟨rfl, hwh⟩
              rw [hwh]
              clear hwh wh
              try go_wp2_with fail
              refine hK.out _ _ ⟨HS0.out.1, HS0.out.2.1.1.1, HS0.out.2.1.1.2 2 (by simp)⟩ (fun _ => ?_)
              clear hK K
              try simp only [Act.put, List.setIfInBounds_toArray, List.set_cons_zero, List.set_cons_succ]
              refine wpAnyH_ready (rs := [6]) (by kernel_rfl) (by simp) ?_
              refine AllReadyH.cons (o := { dst := some 44, op := Op.buildSlice 22 1 #[(0, Operand.tmp 43)], type := 22, pos := "l07_window.go:74", after := #[{ on := 5, ground := Ground.data }], guard := none }) rfl (fun K hK => ?_) AllReadyH.nil
              go_simp
              try go_wp2_with fail
              have hk2 := KW.below (w := w) (ta := ta) (tl := tl) (tc := tc) HS0.out ((Below.refl Wd.heap.size Wd).alloc (Nat.le_refl _) (Obj.cells #[.string X] 9))
              have hz2' := HS0.out.2.1.1.1
              have hz3 := HS0.out.2.2.1.1.1
              refine hK.out _ _ ⟨hk2.1, hk2.2.1.1.1, hk2.2.1.1.2 2 (by simp)⟩ (fun _ => ?_)
              clear hK K
              try simp only [Act.put, List.setIfInBounds_toArray, List.set_cons_zero, List.set_cons_succ]
              refine wpAnyH_ready (rs := [7]) (by kernel_rfl) (by simp) ?_
              refine AllReadyH.cons (o := { dst := some 45, op := Op.call { callee := Callee.builtin Builtin.append, args := #[Operand.tmp 38, Operand.tmp 44], argTypes := #[22, 22] }, type := 22, pos := "l07_window.go:74", after := #[{ on := 0, ground := Ground.data }, { on := 6, ground := Ground.data }, { on := 5, ground := Ground.chain }], guard := none }) rfl (fun K hK => ?_) AllReadyH.nil
              refine step_append_own rfl _ _ 22 rfl (w.heap.size + 3) 9 i0 (.string ⟨#[]⟩) 1 16 Tryd.underlying22 hi hz0 hz1 hz2 rfl sz3 _ _ _ rfl hk2.2.2.2 ⟨Wd.heap.size, 0, none⟩ 1 1 [.string X] rfl rfl (one_cell _ _ _) (one_one _) sz1 sz2 (by simp; omega) ?_
              intro v' w4 hown hgrow hne
              have hk3 : KW w ta tl tc (P ++ [X]) v' w4 := KW.app (w := w) (ta := ta) (tl := tl) (tc := tc) hk2 hown hgrow
              refine hK.out _ _ ⟨hk3.1, hk3.2.1.1.1, hk3.2.1.1.2 2 (by simp)⟩ (fun _ => ?_)
              clear hK K
              try simp only [Act.put, List.setIfInBounds_toArray, List.set_cons_zero, List.set_cons_succ]
              refine wpAnyH_take (i := 12) (oi := { dst := some 5, op := Op.assign (Operand.tmp 45), type := 22, pos := "l07_window.go:74", after := #[{ on := 7, ground := Ground.data }, { on := 7, ground := Ground.chain }, { on := 0, ground := Ground.phase }, { on := 1, ground := Ground.phase }, { on := 2, ground := Ground.phase }, { on := 3, ground := Ground.phase }, { on := 4, ground := Ground.phase }, { on := 5, ground := Ground.phase }, { on := 6, ground := Ground.phase }, { on := 7, ground := Ground.phase }, { on := 8, ground := Ground.textOnly Departure.lateStores }, { on := 9, ground := Ground.textOnly Departure.lateStoresUnsure }, { on := 10, ground := Ground.textOnly Departure.lateStores }, { on := 11, ground := Ground.textOnly Departure.lateStoresUnsure }], guard := none }) (v := ?_) rfl (by kernel_rfl) (by kernel_rfl) (by kernel_rfl) (fun _ _ _ h => h) (Or.inl ⟨by rfl, ?_⟩) (by assumption) ?_
              rotate_left
              · (intro w hSw; (try dsimp only at hSw); go_simp) <;> with_reducible rfl
              try simp only [Act.put, List.setIfInBounds_toArray, List.set_cons_zero, List.set_cons_succ]
              refine wpAnyH_take (i := 13) (oi := { dst := some 6, op := Op.assign (Operand.tmp 47), type := 22, pos := "l07_window.go:74", after := #[{ on := 9, ground := Ground.data }, { on := 12, ground := Ground.chain }, { on := 0, ground := Ground.phase }, { on := 1, ground := Ground.phase }, { on := 2, ground := Ground.phase }, { on := 3, ground := Ground.phase }, { on := 4, ground := Ground.phase }, { on := 5, ground := Ground.phase }, { on := 6, ground := Ground.phase }, { on := 7, ground := Ground.phase }, { on := 8, ground := Ground.phase }, { on := 9, ground := Ground.phase }, { on := 10, ground := Ground.textOnly Departure.lateStores }, { on := 11, ground := Ground.textOnly Departure.lateStoresUnsure }, { on := 12, ground := Ground.phase }], guard := none }) (v := ?_) rfl (by kernel_rfl) (by kernel_rfl) (by kernel_rfl) (fun _ _ _ h => h) (Or.inl ⟨by rfl, ?_⟩) (by assumption) ?_
              rotate_left
              · (intro w hSw; (try dsimp only at hSw); go_simp) <;> with_reducible rfl
              try simp only [Act.put, List.setIfInBounds_toArray, List.set_cons_zero, List.set_cons_succ]
              refine wpAnyH_take (i := 14) (oi := { dst := some 7, op := Op.assign (Operand.tmp 49), type := 22, pos := "l07_window.go:74", after := #[{ on := 11, ground := Ground.data }, { on := 13, ground := Ground.chain }, { on := 0, ground := Ground.phase }, { on := 1, ground := Ground.phase }, { on := 2, ground := Ground.phase }, { on := 3, ground := Ground.phase }, { on := 4, ground := Ground.phase }, { on := 5, ground := Ground.phase }, { on := 6, ground := Ground.phase }, { on := 7, ground := Ground.phase }, { on := 8, ground := Ground.phase }, { on := 9, ground := Ground.phase }, { on := 10, ground := Ground.phase }, { on := 11, ground := Ground.phase }, { on := 12, ground := Ground.phase }, { on := 13, ground := Ground.phase }], guard := none }) (v := ?_) rfl (by kernel_rfl) (by kernel_rfl) (by kernel_rfl) (fun _ _ _ h => h) (Or.inl ⟨by rfl, ?_⟩) (by assumption) ?_
              rotate_left
              · (intro w hSw; (try dsimp only at hSw); go_simp) <;> with_reducible rfl
              try simp only [Act.put, List.setIfInBounds_toArray, List.set_cons_zero, List.set_cons_succ]
              refine wpAnyH_done (by kernel_rfl) ?_ _
              have HKF := hid_intro hk3
              clear hk3 hk2 hown hgrow hne hz2' hz3 HS0
              go_wp2_with fail
              go_roundw
              case rel => exact ⟨P ++ [X], L, Q, hid_intro (KL1.out (by first | rfl | trivial)), hid_intro (KR1.out (by first | rfl | trivial)), by have := HLn.out; have := HRn.out; simp; omega, hid_intro (by rw [← HR.out, List.append_assoc]; exact congrArg _ HMG.out.symm), HKF⟩
              case measure => first | (simp [slen]; done) | (simp [slen]; omega)
            · have hr1 : (1 : Int) ≤ (rc : Int) := by omega
              have hr2 : (1 : Int) ≤ (rl : Int) + 1 := by omega
              have HS0 : Hid (KW w ta tl tc P bv W2.drew) := hid_intro (KW.below (w := w) (ta := ta) (tl := tl) (tc := tc) HK2.out (Below.refl _ _).drew)
              clear HK2
              refine wp_region_held_drew (S := (fun W => Below w.heap.size w W ∧ w.heap.size < W.heap.size ∧ W.cell? ⟨w.heap.size, 2, none⟩ = some (.func (.func 89) #[] #[]))) (by kernel_rfl) ⟨HS0.out.1, HS0.out.2.1.1.1, HS0.out.2.1.1.2 2 (by simp)⟩ (fun hHeld => ?_)
              obtain ⟨Wd, hWd⟩ : ∃ Wd, Wd = W2.drew := ⟨_, rfl⟩
              rw [← hWd] at HS0 ⊢
              try rw [← hWd] at hHeld
              clear hWd
              refine wpAnyH_take (i := 0) (oi := { dst := some 38, op := Op.move (Operand.tmp 5), type := 22, pos := "l07_window.go:74", after := #[], guard := none }) (v := ?_) rfl (by kernel_rfl) (by kernel_rfl) (by kernel_rfl) (fun _ _ _ h => h) (Or.inl ⟨by rfl, ?_⟩) (by assumption) ?_
              rotate_left
              · (intro w hSw; (try dsimp only at hSw); go_simp) <;> with_reducible rfl
              try simp only [Act.put, List.setIfInBounds_toArray, List.set_cons_zero, List.set_cons_succ]
              refine wpAnyH_take (i := 1) (oi := { dst := some 39, op := Op.fieldAddr 91 (Operand.tmp 2) 2, type := 0, pos := "l07_window.go:74", after := #[], guard := none }) (v := ?_) rfl (by kernel_rfl) (by kernel_rfl) (by kernel_rfl) (fun _ _ _ h => h) (Or.inl ⟨by rfl, ?_⟩) (by assumption) ?_
              rotate_left
              · (intro w hSw; (try dsimp only at hSw); go_simp) <;> with_reducible rfl
              try simp only [Act.put, List.setIfInBounds_toArray, List.set_cons_zero, List.set_cons_succ]
              refine wpAnyH_take (i := 2) (oi := { dst := some 40, op := Op.load 89 (Operand.tmp 39), type := 89, pos := "l07_window.go:74", after := #[{ on := 1, ground := Ground.data }], guard := none }) (v := ?_) rfl (by kernel_rfl) (by kernel_rfl) (by kernel_rfl) (fun _ _ _ h => h) (Or.inl ⟨by rfl, ?_⟩) (by assumption) ?_
              rotate_left
              · (intro w hSw; (try dsimp only at hSw); go_simp) <;> with_reducible rfl
              try simp only [Act.put, List.setIfInBounds_toArray, List.set_cons_zero, List.set_cons_succ]
              refine wpAnyH_take (i := 3) (oi := { dst := some 41, op := Op.move (Operand.tmp 8), type := 9, pos := "l07_window.go:74", after := #[], guard := none }) (v := ?_) rfl (by kernel_rfl) (by kernel_rfl) (by kernel_rfl) (fun _ _ _ h => h) (Or.inl ⟨by rfl, ?_⟩) (by assumption) ?_
              rotate_left
              · (intro w hSw; (try dsimp only at hSw); go_simp) <;> with_reducible rfl
              try simp only [Act.put, List.setIfInBounds_toArray, List.set_cons_zero, List.set_cons_succ]
              refine wpAnyH_take (i := 4) (oi := { dst := some 42, op := Op.move (Operand.tmp 9), type := 9, pos := "l07_window.go:74", after := #[], guard := none }) (v := ?_) rfl (by kernel_rfl) (by kernel_rfl) (by kernel_rfl) (fun _ _ _ h => h) (Or.inl ⟨by rfl, ?_⟩) (by assumption) ?_
              rotate_left
              · (intro w hSw; (try dsimp only at hSw); go_simp) <;> with_reducible rfl
              try simp only [Act.put, List.setIfInBounds_toArray, List.set_cons_zero, List.set_cons_succ]
              refine wpAnyH_take (i := 8) (oi := { dst := some 46, op := Op.move (Operand.tmp 6), type := 22, pos := "l07_window.go:74", after := #[], guard := none }) (v := ?_) rfl (by kernel_rfl) (by kernel_rfl) (by kernel_rfl) (fun _ _ _ h => h) (Or.inl ⟨by rfl, ?_⟩) (by assumption) ?_
              rotate_left
              · (intro w hSw; (try dsimp only at hSw); go_simp) <;> with_reducible rfl
              try simp only [Act.put, List.setIfInBounds_toArray, List.set_cons_zero, List.set_cons_succ]
              refine wpAnyH_take (i := 9) (oi := { dst := some 47, op := Op.slice 22 (Operand.tmp 46) (some (Operand.const (Value.int IntKind.i64 1))) none none, type := 22, pos := "l07_window.go:74", after := #[{ on := 8, ground := Ground.data }], guard := none }) (v := ?_) rfl (by kernel_rfl) (by kernel_rfl) (by kernel_rfl) (fun _ _ _ h => h) (Or.inl ⟨by rfl, ?_⟩) (by assumption) ?_
              rotate_left
              · (intro w hSw; (try dsimp only at hSw); go_simp) <;> with_reducible rfl
              try simp only [Act.put, List.setIfInBounds_toArray, List.set_cons_zero, List.set_cons_succ]
              refine wpAnyH_take (i := 10) (oi := { dst := some 48, op := Op.move (Operand.tmp 7), type := 22, pos := "l07_window.go:74", after := #[], guard := none }) (v := ?_) rfl (by kernel_rfl) (by kernel_rfl) (by kernel_rfl) (fun _ _ _ h => h) (Or.inl ⟨by rfl, ?_⟩) (by assumption) ?_
              rotate_left
              · (intro w hSw; (try dsimp only at hSw); go_simp) <;> with_reducible rfl
              try simp only [Act.put, List.setIfInBounds_toArray, List.set_cons_zero, List.set_cons_succ]
              refine wpAnyH_take (i := 11) (oi := { dst := some 49, op := Op.slice 22 (Operand.tmp 48) (some (Operand.const (Value.int IntKind.i64 1))) none none, type := 22, pos := "l07_window.go:74", after := #[{ on := 10, ground := Ground.data }], guard := none }) (v := ?_) rfl (by kernel_rfl) (by kernel_rfl) (by kernel_rfl) (fun _ _ _ h => h) (Or.inl ⟨by rfl, ?_⟩) (by assumption) ?_
              rotate_left
              · (intro w hSw; (try dsimp only at hSw); go_simp) <;> with_reducible rfl
              try simp only [Act.put, List.setIfInBounds_toArray, List.set_cons_zero, List.set_cons_succ]
              refine wpAnyH_ready (rs := [5]) (by kernel_rfl) (by simp) ?_
              refine AllReadyH.cons (o := { dst := some 43, op := Op.call { callee := Callee.value (Operand.tmp 40), args := #[Operand.tmp 41, Operand.tmp 42], argTypes := #[9, 9] }, type := 9, pos := "l07_window.go:74", after := #[{ on := 2, ground := Ground.data }, { on := 3, ground := Ground.data }, { on := 4, ground := Ground.data }], guard := none }) rfl (fun K hK => ?_) AllReadyH.nil
              go_simp
              go_at_call 89
              refine (tmeet X Y _).mono ?_
              rintro e wh ⟨rfl, hwh⟩
              rw [hwh]
              clear hwh wh
              try go_wp2_with fail
              refine hK.out _ _ ⟨HS0.out.1, HS0.out.2.1.1.1, HS0.out.2.1.1.2 2 (by simp)⟩ (fun _ => ?_)
              clear hK K
              try simp only [Act.put, List.setIfInBounds_toArray, List.set_cons_zero, List.set_cons_succ]
              refine wpAnyH_ready (rs := [6]) (by kernel_rfl) (by simp) ?_
              refine AllReadyH.cons (o := { dst := some 44, op := Op.buildSlice 22 1 #[(0, Operand.tmp 43)], type := 22, pos := "l07_window.go:74", after := #[{ on := 5, ground := Ground.data }], guard := none }) rfl (fun K hK => ?_) AllReadyH.nil
              go_simp
              try go_wp2_with fail
              have hk2 := KW.below (w := w) (ta := ta) (tl := tl) (tc := tc) HS0.out ((Below.refl Wd.heap.size Wd).alloc (Nat.le_refl _) (Obj.cells #[.string X] 9))
              have hz2' := HS0.out.2.1.1.1
              have hz3 := HS0.out.2.2.1.1.1
              refine hK.out _ _ ⟨hk2.1, hk2.2.1.1.1, hk2.2.1.1.2 2 (by simp)⟩ (fun _ => ?_)
              clear hK K
              try simp only [Act.put, List.setIfInBounds_toArray, List.set_cons_zero, List.set_cons_succ]
              refine wpAnyH_ready (rs := [7]) (by kernel_rfl) (by simp) ?_
              refine AllReadyH.cons (o := { dst := some 45, op := Op.call { callee := Callee.builtin Builtin.append, args := #[Operand.tmp 38, Operand.tmp 44], argTypes := #[22, 22] }, type := 22, pos := "l07_window.go:74", after := #[{ on := 0, ground := Ground.data }, { on := 6, ground := Ground.data }, { on := 5, ground := Ground.chain }], guard := none }) rfl (fun K hK => ?_) AllReadyH.nil
              refine step_append_own rfl _ _ 22 rfl (w.heap.size + 3) 9 i0 (.string ⟨#[]⟩) 1 16 Tryd.underlying22 hi hz0 hz1 hz2 rfl sz3 _ _ _ rfl hk2.2.2.2 ⟨Wd.heap.size, 0, none⟩ 1 1 [.string X] rfl rfl (one_cell _ _ _) (one_one _) sz1 sz2 (by simp; omega) ?_
              intro v' w4 hown hgrow hne
              have hk3 : KW w ta tl tc (P ++ [X]) v' w4 := KW.app (w := w) (ta := ta) (tl := tl) (tc := tc) hk2 hown hgrow
              refine hK.out _ _ ⟨hk3.1, hk3.2.1.1.1, hk3.2.1.1.2 2 (by simp)⟩ (fun _ => ?_)
              clear hK K
              try simp only [Act.put, List.setIfInBounds_toArray, List.set_cons_zero, List.set_cons_succ]
              refine wpAnyH_take (i := 12) (oi := { dst := some 5, op := Op.assign (Operand.tmp 45), type := 22, pos := "l07_window.go:74", after := #[{ on := 7, ground := Ground.data }, { on := 7, ground := Ground.chain }, { on := 0, ground := Ground.phase }, { on := 1, ground := Ground.phase }, { on := 2, ground := Ground.phase }, { on := 3, ground := Ground.phase }, { on := 4, ground := Ground.phase }, { on := 5, ground := Ground.phase }, { on := 6, ground := Ground.phase }, { on := 7, ground := Ground.phase }, { on := 8, ground := Ground.textOnly Departure.lateStores }, { on := 9, ground := Ground.textOnly Departure.lateStoresUnsure }, { on := 10, ground := Ground.textOnly Departure.lateStores }, { on := 11, ground := Ground.textOnly Departure.lateStoresUnsure }], guard := none }) (v := ?_) rfl (by kernel_rfl) (by kernel_rfl) (by kernel_rfl) (fun _ _ _ h => h) (Or.inl ⟨by rfl, ?_⟩) (by assumption) ?_
              rotate_left
              · (intro w hSw; (try dsimp only at hSw); go_simp) <;> with_reducible rfl
              try simp only [Act.put, List.setIfInBounds_toArray, List.set_cons_zero, List.set_cons_succ]
              refine wpAnyH_take (i := 13) (oi := { dst := some 6, op := Op.assign (Operand.tmp 47), type := 22, pos := "l07_window.go:74", after := #[{ on := 9, ground := Ground.data }, { on := 12, ground := Ground.chain }, { on := 0, ground := Ground.phase }, { on := 1, ground := Ground.phase }, { on := 2, ground := Ground.phase }, { on := 3, ground := Ground.phase }, { on := 4, ground := Ground.phase }, { on := 5, ground := Ground.phase }, { on := 6, ground := Ground.phase }, { on := 7, ground := Ground.phase }, { on := 8, ground := Ground.phase }, { on := 9, ground := Ground.phase }, { on := 10, ground := Ground.textOnly Departure.lateStores }, { on := 11, ground := Ground.textOnly Departure.lateStoresUnsure }, { on := 12, ground := Ground.phase }], guard := none }) (v := ?_) rfl (by kernel_rfl) (by kernel_rfl) (by kernel_rfl) (fun _ _ _ h => h) (Or.inl ⟨by rfl, ?_⟩) (by assumption) ?_
              rotate_left
              · (intro w hSw; (try dsimp only at hSw); go_simp) <;> with_reducible rfl
              try simp only [Act.put, List.setIfInBounds_toArray, List.set_cons_zero, List.set_cons_succ]
              refine wpAnyH_take (i := 14) (oi := { dst := some 7, op := Op.assign (Operand.tmp 49), type := 22, pos := "l07_window.go:74", after := #[{ on := 11, ground := Ground.data }, { on := 13, ground := Ground.chain }, { on := 0, ground := Ground.phase }, { on := 1, ground := Ground.phase }, { on := 2, ground := Ground.phase }, { on := 3, ground := Ground.phase }, { on := 4, ground := Ground.phase }, { on := 5, ground := Ground.phase }, { on := 6, ground := Ground.phase }, { on := 7, ground := Ground.phase }, { on := 8, ground := Ground.phase }, { on := 9, ground := Ground.phase }, { on := 10, ground := Ground.phase }, { on := 11, ground := Ground.phase }, { on := 12, ground := Ground.phase }, { on := 13, ground := Ground.phase }], guard := none }) (v := ?_) rfl (by kernel_rfl) (by kernel_rfl) (by kernel_rfl) (fun _ _ _ h => h) (Or.inl ⟨by rfl, ?_⟩) (by assumption) ?_
              rotate_left
              · (intro w hSw; (try dsimp only at hSw); go_simp) <;> with_reducible rfl
              try simp only [Act.put, List.setIfInBounds_toArray, List.set_cons_zero, List.set_cons_succ]
              refine wpAnyH_done (by kernel_rfl) ?_ _
              have HKF := hid_intro hk3
              clear hk3 hk2 hown hgrow hne hz2' hz3 HS0
              go_wp2_with fail
              go_roundw
              case rel => exact ⟨P ++ [X], L, Q, hid_intro (KL1.out (by first | rfl | trivial)), hid_intro (KR2.out hrc), by have := HLn.out; have := HRn.out; simp; omega, hid_intro (by rw [← HR.out, List.append_assoc]; exact congrArg _ HMG.out.symm), HKF⟩
              case measure => first | (simp [slen]; done) | (simp [slen]; omega)
          · have hl1 : (1 : Int) ≤ (lc : Int) := by omega
            have hl2 : (1 : Int) ≤ (ll : Int) + 1 := by omega
            by_cases hrc : rc = 1
            · have hr1 : rc = 1 := hrc
              obtain rfl : rl = 0 := by omega
              subst hr1
              have HS0 : Hid (KW w ta tl tc P bv W2.drew) := hid_intro (KW.below (w := w) (ta := ta) (tl := tl) (tc := tc) HK2.out (Below.refl _ _).drew)
              clear HK2
              refine wp_region_held_drew (S := (fun W => Below w.heap.size w W ∧ w.heap.size < W.heap.size ∧ W.cell? ⟨w.heap.size, 2, none⟩ = some (.func (.func 89) #[] #[]))) (by kernel_rfl) ⟨HS0.out.1, HS0.out.2.1.1.1, HS0.out.2.1.1.2 2 (by simp)⟩ (fun hHeld => ?_)
              obtain ⟨Wd, hWd⟩ : ∃ Wd, Wd = W2.drew := ⟨_, rfl⟩
              rw [← hWd] at HS0 ⊢
              try rw [← hWd] at hHeld
              clear hWd
              refine wpAnyH_take (i := 0) (oi := { dst := some 38, op := Op.move (Operand.tmp 5), type := 22, pos := "l07_window.go:74", after := #[], guard := none }) (v := ?_) rfl (by kernel_rfl) (by kernel_rfl) (by kernel_rfl) (fun _ _ _ h => h) (Or.inl ⟨by rfl, ?_⟩) (by assumption) ?_
              rotate_left
              · (intro w hSw; (try dsimp only at hSw); go_simp) <;> with_reducible rfl
              try simp only [Act.put, List.setIfInBounds_toArray, List.set_cons_zero, List.set_cons_succ]
              refine wpAnyH_take (i := 1) (oi := { dst := some 39, op := Op.fieldAddr 91 (Operand.tmp 2) 2, type := 0, pos := "l07_window.go:74", after := #[], guard := none }) (v := ?_) rfl (by kernel_rfl) (by kernel_rfl) (by kernel_rfl) (fun _ _ _ h => h) (Or.inl ⟨by rfl, ?_⟩) (by assumption) ?_
              rotate_left
              · (intro w hSw; (try dsimp only at hSw); go_simp) <;> with_reducible rfl
              try simp only [Act.put, List.setIfInBounds_toArray, List.set_cons_zero, List.set_cons_succ]
              refine wpAnyH_take (i := 2) (oi := { dst := some 40, op := Op.load 89 (Operand.tmp 39), type := 89, pos := "l07_window.go:74", after := #[{ on := 1, ground := Ground.data }], guard := none }) (v := ?_) rfl (by kernel_rfl) (by kernel_rfl) (by kernel_rfl) (fun _ _ _ h => h) (Or.inl ⟨by rfl, ?_⟩) (by assumption) ?_
              rotate_left
              · (intro w hSw; (try dsimp only at hSw); go_simp) <;> with_reducible rfl
              try simp only [Act.put, List.setIfInBounds_toArray, List.set_cons_zero, List.set_cons_succ]
              refine wpAnyH_take (i := 3) (oi := { dst := some 41, op := Op.move (Operand.tmp 8), type := 9, pos := "l07_window.go:74", after := #[], guard := none }) (v := ?_) rfl (by kernel_rfl) (by kernel_rfl) (by kernel_rfl) (fun _ _ _ h => h) (Or.inl ⟨by rfl, ?_⟩) (by assumption) ?_
              rotate_left
              · (intro w hSw; (try dsimp only at hSw); go_simp) <;> with_reducible rfl
              try simp only [Act.put, List.setIfInBounds_toArray, List.set_cons_zero, List.set_cons_succ]
              refine wpAnyH_take (i := 4) (oi := { dst := some 42, op := Op.move (Operand.tmp 9), type := 9, pos := "l07_window.go:74", after := #[], guard := none }) (v := ?_) rfl (by kernel_rfl) (by kernel_rfl) (by kernel_rfl) (fun _ _ _ h => h) (Or.inl ⟨by rfl, ?_⟩) (by assumption) ?_
              rotate_left
              · (intro w hSw; (try dsimp only at hSw); go_simp) <;> with_reducible rfl
              try simp only [Act.put, List.setIfInBounds_toArray, List.set_cons_zero, List.set_cons_succ]
              refine wpAnyH_take (i := 8) (oi := { dst := some 46, op := Op.move (Operand.tmp 6), type := 22, pos := "l07_window.go:74", after := #[], guard := none }) (v := ?_) rfl (by kernel_rfl) (by kernel_rfl) (by kernel_rfl) (fun _ _ _ h => h) (Or.inl ⟨by rfl, ?_⟩) (by assumption) ?_
              rotate_left
              · (intro w hSw; (try dsimp only at hSw); go_simp) <;> with_reducible rfl
              try simp only [Act.put, List.setIfInBounds_toArray, List.set_cons_zero, List.set_cons_succ]
              refine wpAnyH_take (i := 9) (oi := { dst := some 47, op := Op.slice 22 (Operand.tmp 46) (some (Operand.const (Value.int IntKind.i64 1))) none none, type := 22, pos := "l07_window.go:74", after := #[{ on := 8, ground := Ground.data }], guard := none }) (v := ?_) rfl (by kernel_rfl) (by kernel_rfl) (by kernel_rfl) (fun _ _ _ h => h) (Or.inl ⟨by rfl, ?_⟩) (by assumption) ?_
              rotate_left
              · (intro w hSw; (try dsimp only at hSw); go_simp) <;> with_reducible rfl
              try simp only [Act.put, List.setIfInBounds_toArray, List.set_cons_zero, List.set_cons_succ]
              refine wpAnyH_take (i := 10) (oi := { dst := some 48, op := Op.move (Operand.tmp 7), type := 22, pos := "l07_window.go:74", after := #[], guard := none }) (v := ?_) rfl (by kernel_rfl) (by kernel_rfl) (by kernel_rfl) (fun _ _ _ h => h) (Or.inl ⟨by rfl, ?_⟩) (by assumption) ?_
              rotate_left
              · (intro w hSw; (try dsimp only at hSw); go_simp) <;> with_reducible rfl
              try simp only [Act.put, List.setIfInBounds_toArray, List.set_cons_zero, List.set_cons_succ]
              refine wpAnyH_take (i := 11) (oi := { dst := some 49, op := Op.slice 22 (Operand.tmp 48) (some (Operand.const (Value.int IntKind.i64 1))) none none, type := 22, pos := "l07_window.go:74", after := #[{ on := 10, ground := Ground.data }], guard := none }) (v := ?_) rfl (by kernel_rfl) (by kernel_rfl) (by kernel_rfl) (fun _ _ _ h => h) (Or.inl ⟨by rfl, ?_⟩) (by assumption) ?_
              rotate_left
              · (intro w hSw; (try dsimp only at hSw); go_simp) <;> with_reducible rfl
              try simp only [Act.put, List.setIfInBounds_toArray, List.set_cons_zero, List.set_cons_succ]
              refine wpAnyH_ready (rs := [5]) (by kernel_rfl) (by simp) ?_
              refine AllReadyH.cons (o := { dst := some 43, op := Op.call { callee := Callee.value (Operand.tmp 40), args := #[Operand.tmp 41, Operand.tmp 42], argTypes := #[9, 9] }, type := 9, pos := "l07_window.go:74", after := #[{ on := 2, ground := Ground.data }, { on := 3, ground := Ground.data }, { on := 4, ground := Ground.data }], guard := none }) rfl (fun K hK => ?_) AllReadyH.nil
              go_simp
              go_at_call 89
              refine (tmeet X Y _).mono ?_
              rintro e wh ⟨rfl, hwh⟩
              rw [hwh]
              clear hwh wh
              try go_wp2_with fail
              refine hK.out _ _ ⟨HS0.out.1, HS0.out.2.1.1.1, HS0.out.2.1.1.2 2 (by simp)⟩ (fun _ => ?_)
              clear hK K
              try simp only [Act.put, List.setIfInBounds_toArray, List.set_cons_zero, List.set_cons_succ]
              refine wpAnyH_ready (rs := [6]) (by kernel_rfl) (by simp) ?_
              refine AllReadyH.cons (o := { dst := some 44, op := Op.buildSlice 22 1 #[(0, Operand.tmp 43)], type := 22, pos := "l07_window.go:74", after := #[{ on := 5, ground := Ground.data }], guard := none }) rfl (fun K hK => ?_) AllReadyH.nil
              go_simp
              try go_wp2_with fail
              have hk2 := KW.below (w := w) (ta := ta) (tl := tl) (tc := tc) HS0.out ((Below.refl Wd.heap.size Wd).alloc (Nat.le_refl _) (Obj.cells #[.string X] 9))
              have hz2' := HS0.out.2.1.1.1
              have hz3 := HS0.out.2.2.1.1.1
              refine hK.out _ _ ⟨hk2.1, hk2.2.1.1.1, hk2.2.1.1.2 2 (by simp)⟩ (fun _ => ?_)
              clear hK K
              try simp only [Act.put, List.setIfInBounds_toArray, List.set_cons_zero, List.set_cons_succ]
              refine wpAnyH_ready (rs := [7]) (by kernel_rfl) (by simp) ?_
              refine AllReadyH.cons (o := { dst := some 45, op := Op.call { callee := Callee.builtin Builtin.append, args := #[Operand.tmp 38, Operand.tmp 44], argTypes := #[22, 22] }, type := 22, pos := "l07_window.go:74", after := #[{ on := 0, ground := Ground.data }, { on := 6, ground := Ground.data }, { on := 5, ground := Ground.chain }], guard := none }) rfl (fun K hK => ?_) AllReadyH.nil
              refine step_append_own rfl _ _ 22 rfl (w.heap.size + 3) 9 i0 (.string ⟨#[]⟩) 1 16 Tryd.underlying22 hi hz0 hz1 hz2 rfl sz3 _ _ _ rfl hk2.2.2.2 ⟨Wd.heap.size, 0, none⟩ 1 1 [.string X] rfl rfl (one_cell _ _ _) (one_one _) sz1 sz2 (by simp; omega) ?_
              intro v' w4 hown hgrow hne
              have hk3 : KW w ta tl tc (P ++ [X]) v' w4 := KW.app (w := w) (ta := ta) (tl := tl) (tc := tc) hk2 hown hgrow
              refine hK.out _ _ ⟨hk3.1, hk3.2.1.1.1, hk3.2.1.1.2 2 (by simp)⟩ (fun _ => ?_)
              clear hK K
              try simp only [Act.put, List.setIfInBounds_toArray, List.set_cons_zero, List.set_cons_succ]
              refine wpAnyH_take (i := 12) (oi := { dst := some 5, op := Op.assign (Operand.tmp 45), type := 22, pos := "l07_window.go:74", after := #[{ on := 7, ground := Ground.data }, { on := 7, ground := Ground.chain }, { on := 0, ground := Ground.phase }, { on := 1, ground := Ground.phase }, { on := 2, ground := Ground.phase }, { on := 3, ground := Ground.phase }, { on := 4, ground := Ground.phase }, { on := 5, ground := Ground.phase }, { on := 6, ground := Ground.phase }, { on := 7, ground := Ground.phase }, { on := 8, ground := Ground.textOnly Departure.lateStores }, { on := 9, ground := Ground.textOnly Departure.lateStoresUnsure }, { on := 10, ground := Ground.textOnly Departure.lateStores }, { on := 11, ground := Ground.textOnly Departure.lateStoresUnsure }], guard := none }) (v := ?_) rfl (by kernel_rfl) (by kernel_rfl) (by kernel_rfl) (fun _ _ _ h => h) (Or.inl ⟨by rfl, ?_⟩) (by assumption) ?_
              rotate_left
              · (intro w hSw; (try dsimp only at hSw); go_simp) <;> with_reducible rfl
              try simp only [Act.put, List.setIfInBounds_toArray, List.set_cons_zero, List.set_cons_succ]
              refine wpAnyH_take (i := 13) (oi := { dst := some 6, op := Op.assign (Operand.tmp 47), type := 22, pos := "l07_window.go:74", after := #[{ on := 9, ground := Ground.data }, { on := 12, ground := Ground.chain }, { on := 0, ground := Ground.phase }, { on := 1, ground := Ground.phase }, { on := 2, ground := Ground.phase }, { on := 3, ground := Ground.phase }, { on := 4, ground := Ground.phase }, { on := 5, ground := Ground.phase }, { on := 6, ground := Ground.phase }, { on := 7, ground := Ground.phase }, { on := 8, ground := Ground.phase }, { on := 9, ground := Ground.phase }, { on := 10, ground := Ground.textOnly Departure.lateStores }, { on := 11, ground := Ground.textOnly Departure.lateStoresUnsure }, { on := 12, ground := Ground.phase }], guard := none }) (v := ?_) rfl (by kernel_rfl) (by kernel_rfl) (by kernel_rfl) (fun _ _ _ h => h) (Or.inl ⟨by rfl, ?_⟩) (by assumption) ?_
              rotate_left
              · (intro w hSw; (try dsimp only at hSw); go_simp) <;> with_reducible rfl
              try simp only [Act.put, List.setIfInBounds_toArray, List.set_cons_zero, List.set_cons_succ]
              refine wpAnyH_take (i := 14) (oi := { dst := some 7, op := Op.assign (Operand.tmp 49), type := 22, pos := "l07_window.go:74", after := #[{ on := 11, ground := Ground.data }, { on := 13, ground := Ground.chain }, { on := 0, ground := Ground.phase }, { on := 1, ground := Ground.phase }, { on := 2, ground := Ground.phase }, { on := 3, ground := Ground.phase }, { on := 4, ground := Ground.phase }, { on := 5, ground := Ground.phase }, { on := 6, ground := Ground.phase }, { on := 7, ground := Ground.phase }, { on := 8, ground := Ground.phase }, { on := 9, ground := Ground.phase }, { on := 10, ground := Ground.phase }, { on := 11, ground := Ground.phase }, { on := 12, ground := Ground.phase }, { on := 13, ground := Ground.phase }], guard := none }) (v := ?_) rfl (by kernel_rfl) (by kernel_rfl) (by kernel_rfl) (fun _ _ _ h => h) (Or.inl ⟨by rfl, ?_⟩) (by assumption) ?_
              rotate_left
              · (intro w hSw; (try dsimp only at hSw); go_simp) <;> with_reducible rfl
              try simp only [Act.put, List.setIfInBounds_toArray, List.set_cons_zero, List.set_cons_succ]
              refine wpAnyH_done (by kernel_rfl) ?_ _
              have HKF := hid_intro hk3
              clear hk3 hk2 hown hgrow hne hz2' hz3 HS0
              go_wp2_with fail
              go_roundw
              case rel => exact ⟨P ++ [X], L, Q, hid_intro (KL2.out hlc), hid_intro (KR1.out (by first | rfl | trivial)), by have := HLn.out; have := HRn.out; simp; omega, hid_intro (by rw [← HR.out, List.append_assoc]; exact congrArg _ HMG.out.symm), HKF⟩
              case measure => first | (simp [slen]; done) | (simp [slen]; omega)
            · have hr1 : (1 : Int) ≤ (rc : Int) := by omega
              have hr2 : (1 : Int) ≤ (rl : Int) + 1 := by omega
              have HS0 : Hid (KW w ta tl tc P bv W2.drew) := hid_intro (KW.below (w := w) (ta := ta) (tl := tl) (tc := tc) HK2.out (Below.refl _ _).drew)
              clear HK2
              refine wp_region_held_drew (S := (fun W => Below w.heap.size w W ∧ w.heap.size < W.heap.size ∧ W.cell? ⟨w.heap.size, 2, none⟩ = some (.func (.func 89) #[] #[]))) (by kernel_rfl) ⟨HS0.out.1, HS0.out.2.1.1.1, HS0.out.2.1.1.2 2 (by simp)⟩ (fun hHeld => ?_)
              obtain ⟨Wd, hWd⟩ : ∃ Wd, Wd = W2.drew := ⟨_, rfl⟩
              rw [← hWd] at HS0 ⊢
              try rw [← hWd] at hHeld
              clear hWd
              refine wpAnyH_take (i := 0) (oi := { dst := some 38, op := Op.move (Operand.tmp 5), type := 22, pos := "l07_window.go:74", after := #[], guard := none }) (v := ?_) rfl (by kernel_rfl) (by kernel_rfl) (by kernel_rfl) (fun _ _ _ h => h) (Or.inl ⟨by rfl, ?_⟩) (by assumption) ?_
              rotate_left
              · (intro w hSw; (try dsimp only at hSw); go_simp) <;> with_reducible rfl
              try simp only [Act.put, List.setIfInBounds_toArray, List.set_cons_zero, List.set_cons_succ]
              refine wpAnyH_take (i := 1) (oi := { dst := some 39, op := Op.fieldAddr 91 (Operand.tmp 2) 2, type := 0, pos := "l07_window.go:74", after := #[], guard := none }) (v := ?_) rfl (by kernel_rfl) (by kernel_rfl) (by kernel_rfl) (fun _ _ _ h => h) (Or.inl ⟨by rfl, ?_⟩) (by assumption) ?_
              rotate_left
              · (intro w hSw; (try dsimp only at hSw); go_simp) <;> with_reducible rfl
              try simp only [Act.put, List.setIfInBounds_toArray, List.set_cons_zero, List.set_cons_succ]
              refine wpAnyH_take (i := 2) (oi := { dst := some 40, op := Op.load 89 (Operand.tmp 39), type := 89, pos := "l07_window.go:74", after := #[{ on := 1, ground := Ground.data }], guard := none }) (v := ?_) rfl (by kernel_rfl) (by kernel_rfl) (by kernel_rfl) (fun _ _ _ h => h) (Or.inl ⟨by rfl, ?_⟩) (by assumption) ?_
              rotate_left
              · (intro w hSw; (try dsimp only at hSw); go_simp) <;> with_reducible rfl
              try simp only [Act.put, List.setIfInBounds_toArray, List.set_cons_zero, List.set_cons_succ]
              refine wpAnyH_take (i := 3) (oi := { dst := some 41, op := Op.move (Operand.tmp 8), type := 9, pos := "l07_window.go:74", after := #[], guard := none }) (v := ?_) rfl (by kernel_rfl) (by kernel_rfl) (by kernel_rfl) (fun _ _ _ h => h) (Or.inl ⟨by rfl, ?_⟩) (by assumption) ?_
              rotate_left
              · (intro w hSw; (try dsimp only at hSw); go_simp) <;> with_reducible rfl
              try simp only [Act.put, List.setIfInBounds_toArray, List.set_cons_zero, List.set_cons_succ]
              refine wpAnyH_take (i := 4) (oi := { dst := some 42, op := Op.move (Operand.tmp 9), type := 9, pos := "l07_window.go:74", after := #[], guard := none }) (v := ?_) rfl (by kernel_rfl) (by kernel_rfl) (by kernel_rfl) (fun _ _ _ h => h) (Or.inl ⟨by rfl, ?_⟩) (by assumption) ?_
              rotate_left
              · (intro w hSw; (try dsimp only at hSw); go_simp) <;> with_reducible rfl
              try simp only [Act.put, List.setIfInBounds_toArray, List.set_cons_zero, List.set_cons_succ]
              refine wpAnyH_take (i := 8) (oi := { dst := some 46, op := Op.move (Operand.tmp 6), type := 22, pos := "l07_window.go:74", after := #[], guard := none }) (v := ?_) rfl (by kernel_rfl) (by kernel_rfl) (by kernel_rfl) (fun _ _ _ h => h) (Or.inl ⟨by rfl, ?_⟩) (by assumption) ?_
              rotate_left
              · (intro w hSw; (try dsimp only at hSw); go_simp) <;> with_reducible rfl
              try simp only [Act.put, List.setIfInBounds_toArray, List.set_cons_zero, List.set_cons_succ]
              refine wpAnyH_take (i := 9) (oi := { dst := some 47, op := Op.slice 22 (Operand.tmp 46) (some (Operand.const (Value.int IntKind.i64 1))) none none, type := 22, pos := "l07_window.go:74", after := #[{ on := 8, ground := Ground.data }], guard := none }) (v := ?_) rfl (by kernel_rfl) (by kernel_rfl) (by kernel_rfl) (fun _ _ _ h => h) (Or.inl ⟨by rfl, ?_⟩) (by assumption) ?_
              rotate_left
              · (intro w hSw; (try dsimp only at hSw); go_simp) <;> with_reducible rfl
              try simp only [Act.put, List.setIfInBounds_toArray, List.set_cons_zero, List.set_cons_succ]
              refine wpAnyH_take (i := 10) (oi := { dst := some 48, op := Op.move (Operand.tmp 7), type := 22, pos := "l07_window.go:74", after := #[], guard := none }) (v := ?_) rfl (by kernel_rfl) (by kernel_rfl) (by kernel_rfl) (fun _ _ _ h => h) (Or.inl ⟨by rfl, ?_⟩) (by assumption) ?_
              rotate_left
              · (intro w hSw; (try dsimp only at hSw); go_simp) <;> with_reducible rfl
              try simp only [Act.put, List.setIfInBounds_toArray, List.set_cons_zero, List.set_cons_succ]
              refine wpAnyH_take (i := 11) (oi := { dst := some 49, op := Op.slice 22 (Operand.tmp 48) (some (Operand.const (Value.int IntKind.i64 1))) none none, type := 22, pos := "l07_window.go:74", after := #[{ on := 10, ground := Ground.data }], guard := none }) (v := ?_) rfl (by kernel_rfl) (by kernel_rfl) (by kernel_rfl) (fun _ _ _ h => h) (Or.inl ⟨by rfl, ?_⟩) (by assumption) ?_
              rotate_left
              · (intro w hSw; (try dsimp only at hSw); go_simp) <;> with_reducible rfl
              try simp only [Act.put, List.setIfInBounds_toArray, List.set_cons_zero, List.set_cons_succ]
              refine wpAnyH_ready (rs := [5]) (by kernel_rfl) (by simp) ?_
              refine AllReadyH.cons (o := { dst := some 43, op := Op.call { callee := Callee.value (Operand.tmp 40), args := #[Operand.tmp 41, Operand.tmp 42], argTypes := #[9, 9] }, type := 9, pos := "l07_window.go:74", after := #[{ on := 2, ground := Ground.data }, { on := 3, ground := Ground.data }, { on := 4, ground := Ground.data }], guard := none }) rfl (fun K hK => ?_) AllReadyH.nil
              go_simp
              go_at_call 89
              refine (tmeet X Y _).mono ?_
              rintro e wh ⟨rfl, hwh⟩
              rw [hwh]
              clear hwh wh
              try go_wp2_with fail
              refine hK.out _ _ ⟨HS0.out.1, HS0.out.2.1.1.1, HS0.out.2.1.1.2 2 (by simp)⟩ (fun _ => ?_)
              clear hK K
              try simp only [Act.put, List.setIfInBounds_toArray, List.set_cons_zero, List.set_cons_succ]
              refine wpAnyH_ready (rs := [6]) (by kernel_rfl) (by simp) ?_
              refine AllReadyH.cons (o := { dst := some 44, op := Op.buildSlice 22 1 #[(0, Operand.tmp 43)], type := 22, pos := "l07_window.go:74", after := #[{ on := 5, ground := Ground.data }], guard := none }) rfl (fun K hK => ?_) AllReadyH.nil
              go_simp
              try go_wp2_with fail
              have hk2 := KW.below (w := w) (ta := ta) (tl := tl) (tc := tc) HS0.out ((Below.refl Wd.heap.size Wd).alloc (Nat.le_refl _) (Obj.cells #[.string X] 9))
              have hz2' := HS0.out.2.1.1.1
              have hz3 := HS0.out.2.2.1.1.1
              refine hK.out _ _ ⟨hk2.1, hk2.2.1.1.1, hk2.2.1.1.2 2 (by simp)⟩ (fun _ => ?_)
              clear hK K
              try simp only [Act.put, List.setIfInBounds_toArray, List.set_cons_zero, List.set_cons_succ]
              refine wpAnyH_ready (rs := [7]) (by kernel_rfl) (by simp) ?_
              refine AllReadyH.cons (o := { dst := some 45, op := Op.call { callee := Callee.builtin Builtin.append, args := #[Operand.tmp 38, Operand.tmp 44], argTypes := #[22, 22] }, type := 22, pos := "l07_window.go:74", after := #[{ on := 0, ground := Ground.data }, { on := 6, ground := Ground.data }, { on := 5, ground := Ground.chain }], guard := none }) rfl (fun K hK => ?_) AllReadyH.nil
              refine step_append_own rfl _ _ 22 rfl (w.heap.size + 3) 9 i0 (.string ⟨#[]⟩) 1 16 Tryd.underlying22 hi hz0 hz1 hz2 rfl sz3 _ _ _ rfl hk2.2.2.2 ⟨Wd.heap.size, 0, none⟩ 1 1 [.string X] rfl rfl (one_cell _ _ _) (one_one _) sz1 sz2 (by simp; omega) ?_
              intro v' w4 hown hgrow hne
              have hk3 : KW w ta tl tc (P ++ [X]) v' w4 := KW.app (w := w) (ta := ta) (tl := tl) (tc := tc) hk2 hown hgrow
              refine hK.out _ _ ⟨hk3.1, hk3.2.1.1.1, hk3.2.1.1.2 2 (by simp)⟩ (fun _ => ?_)
              clear hK K
              try simp only [Act.put, List.setIfInBounds_toArray, List.set_cons_zero, List.set_cons_succ]
              refine wpAnyH_take (i := 12) (oi := { dst := some 5, op := Op.assign (Operand.tmp 45), type := 22, pos := "l07_window.go:74", after := #[{ on := 7, ground := Ground.data }, { on := 7, ground := Ground.chain }, { on := 0, ground := Ground.phase }, { on := 1, ground := Ground.phase }, { on := 2, ground := Ground.phase }, { on := 3, ground := Ground.phase }, { on := 4, ground := Ground.phase }, { on := 5, ground := Ground.phase }, { on := 6, ground := Ground.phase }, { on := 7, ground := Ground.phase }, { on := 8, ground := Ground.textOnly Departure.lateStores }, { on := 9, ground := Ground.textOnly Departure.lateStoresUnsure }, { on := 10, ground := Ground.textOnly Departure.lateStores }, { on := 11, ground := Ground.textOnly Departure.lateStoresUnsure }], guard := none }) (v := ?_) rfl (by kernel_rfl) (by kernel_rfl) (by kernel_rfl) (fun _ _ _ h => h) (Or.inl ⟨by rfl, ?_⟩) (by assumption) ?_
              rotate_left
              · (intro w hSw; (try dsimp only at hSw); go_simp) <;> with_reducible rfl
              try simp only [Act.put, List.setIfInBounds_toArray, List.set_cons_zero, List.set_cons_succ]
              refine wpAnyH_take (i := 13) (oi := { dst := some 6, op := Op.assign (Operand.tmp 47), type := 22, pos := "l07_window.go:74", after := #[{ on := 9, ground := Ground.data }, { on := 12, ground := Ground.chain }, { on := 0, ground := Ground.phase }, { on := 1, ground := Ground.phase }, { on := 2, ground := Ground.phase }, { on := 3, ground := Ground.phase }, { on := 4, ground := Ground.phase }, { on := 5, ground := Ground.phase }, { on := 6, ground := Ground.phase }, { on := 7, ground := Ground.phase }, { on := 8, ground := Ground.phase }, { on := 9, ground := Ground.phase }, { on := 10, ground := Ground.textOnly Departure.lateStores }, { on := 11, ground := Ground.textOnly Departure.lateStoresUnsure }, { on := 12, ground := Ground.phase }], guard := none }) (v := ?_) rfl (by kernel_rfl) (by kernel_rfl) (by kernel_rfl) (fun _ _ _ h => h) (Or.inl ⟨by rfl, ?_⟩) (by assumption) ?_
              rotate_left
              · (intro w hSw; (try dsimp only at hSw); go_simp) <;> with_reducible rfl
              try simp only [Act.put, List.setIfInBounds_toArray, List.set_cons_zero, List.set_cons_succ]
              refine wpAnyH_take (i := 14) (oi := { dst := some 7, op := Op.assign (Operand.tmp 49), type := 22, pos := "l07_window.go:74", after := #[{ on := 11, ground := Ground.data }, { on := 13, ground := Ground.chain }, { on := 0, ground := Ground.phase }, { on := 1, ground := Ground.phase }, { on := 2, ground := Ground.phase }, { on := 3, ground := Ground.phase }, { on := 4, ground := Ground.phase }, { on := 5, ground := Ground.phase }, { on := 6, ground := Ground.phase }, { on := 7, ground := Ground.phase }, { on := 8, ground := Ground.phase }, { on := 9, ground := Ground.phase }, { on := 10, ground := Ground.phase }, { on := 11, ground := Ground.phase }, { on := 12, ground := Ground.phase }, { on := 13, ground := Ground.phase }], guard := none }) (v := ?_) rfl (by kernel_rfl) (by kernel_rfl) (by kernel_rfl) (fun _ _ _ h => h) (Or.inl ⟨by rfl, ?_⟩) (by assumption) ?_
              rotate_left
              · (intro w hSw; (try dsimp only at hSw); go_simp) <;> with_reducible rfl
              try simp only [Act.put, List.setIfInBounds_toArray, List.set_cons_zero, List.set_cons_succ]
              refine wpAnyH_done (by kernel_rfl) ?_ _
              have HKF := hid_intro hk3
              clear hk3 hk2 hown hgrow hne hz2' hz3 HS0
              go_wp2_with fail
              go_roundw
              case rel => exact ⟨P ++ [X], L, Q, hid_intro (KL2.out hlc), hid_intro (KR2.out hrc), by have := HLn.out; have := HRn.out; simp; omega, hid_intro (by rw [← HR.out, List.append_assoc]; exact congrArg _ HMG.out.symm), HKF⟩
              case measure => first | (simp [slen]; done) | (simp [slen]; omega)
        · have hcm : cmpT X Y = 1 := by unfold cmpT; rw [hlt, hgt]; rfl
          have HMG : Hid (mrg lt fstT (X :: L) (Y :: Q) = Y :: mrg lt fstT (X :: L) Q) := hid_intro (by rw [mrg, if_neg (by rw [hlt]; simp), if_pos hgt])
          have HC : Hid (∀ w, Calls Tryd.prog 105 #[.string X, .string Y] w fun e w' => e = .returned (.int .i64 (1)) ∧ w' = w) := hid_intro (fun w => by have h := cmpS X Y w; rw [hcm] at h; exact h)
          clear hcm
          try clear hlt
          try clear hgt
          go_wp2_with fail
          go_quiet (fail)
          go_wp2_with fail
          obtain ⟨W1, hW1⟩ : ∃ W1, W1 = wr.drewN nq := ⟨_, rfl⟩
          rw [← hW1]
          have HK1 : Hid (KW w ta tl tc P bv W1) := hid_intro (by rw [hW1]; exact KW.below (w := w) (ta := ta) (tl := tl) (tc := tc) HK.out (bdN2 (Below.refl _ _) _))
          clear hW1 HK gx gy cX cY
          have x1 : W1.cell? ⟨w.heap.size, 1, none⟩ = some (.func (.func 88) #[] #[]) := HK1.out.2.1.1.2 1 (by simp)
          have xl := HK1.out.2.1.1.1
          go_quiet ((first | (go_at_call 88; exact Calls.quiet_of_same (HKEY.out _ _)) | (go_at_call 105; exact Calls.quiet_of_same (HC.out _))))
          go_wp2_with fail
          obtain ⟨W2, hW2⟩ : ∃ W2, W2 = W1.drewN nq := ⟨_, rfl⟩
          rw [← hW2]
          have HK2 : Hid (KW w ta tl tc P bv W2) := hid_intro (by rw [hW2]; exact KW.below (w := w) (ta := ta) (tl := tl) (tc := tc) HK1.out (bdN2 (Below.refl _ _) _))
          clear hW2 HK1 x1 xl HC
          by_cases hrc : rc = 1
          · have hr1 : rc = 1 := hrc
            obtain rfl : rl = 0 := by omega
            subst hr1
            have HS0 : Hid (KW w ta tl tc P bv W2.drew) := hid_intro (KW.below (w := w) (ta := ta) (tl := tl) (tc := tc) HK2.out (Below.refl _ _).drew)
            clear HK2
            refine wp_region_held_drew (S := (fun W => Below w.heap.size w W ∧ w.heap.size < W.heap.size ∧ W.cell? ⟨w.heap.size, 2, none⟩ = some (.func (.func 89) #[] #[]))) (by kernel_rfl) ⟨HS0.out.1, HS0.out.2.1.1.1, HS0.out.2.1.1.2 2 (by simp)⟩ (fun hHeld => ?_)
            obtain ⟨Wd, hWd⟩ : ∃ Wd, Wd = W2.drew := ⟨_, rfl⟩
            rw [← hWd] at HS0 ⊢
            try rw [← hWd] at hHeld
            clear hWd
            refine wpAnyH_take (i := 0) (oi := { dst := some 62, op := Op.move (Operand.tmp 5), type := 22, pos := "l07_window.go:72", after := #[], guard := none }) (v := ?_) rfl (by kernel_rfl) (by kernel_rfl) (by kernel_rfl) (fun _ _ _ h => h) (Or.inl ⟨by rfl, ?_⟩) (by assumption) ?_
            rotate_left
            · (intro w hSw; (try dsimp only at hSw); go_simp) <;> with_reducible rfl
            try simp only [Act.put, List.setIfInBounds_toArray, List.set_cons_zero, List.set_cons_succ]
            refine wpAnyH_take (i := 1) (oi := { dst := some 63, op := Op.move (Operand.tmp 9), type := 9, pos := "l07_window.go:72", after := #[], guard := none }) (v := ?_) rfl (by kernel_rfl) (by kernel_rfl) (by kernel_rfl) (fun _ _ _ h => h) (Or.inl ⟨by rfl, ?_⟩) (by assumption) ?_
            rotate_left
            · (intro w hSw; (try dsimp only at hSw); go_simp) <;> with_reducible rfl
            try simp only [Act.put, List.setIfInBounds_toArray, List.set_cons_zero, List.set_cons_succ]
            refine wpAnyH_take (i := 4) (oi := { dst := some 66, op := Op.move (Operand.tmp 7), type := 22, pos := "l07_window.go:72", after := #[], guard := none }) (v := ?_) rfl (by kernel_rfl) (by kernel_rfl) (by kernel_rfl) (fun _ _ _ h => h) (Or.inl ⟨by rfl, ?_⟩) (by assumption) ?_
            rotate_left
            · (intro w hSw; (try dsimp only at hSw); go_simp) <;> with_reducible rfl
            try simp only [Act.put, List.setIfInBounds_toArray, List.set_cons_zero, List.set_cons_succ]
            refine wpAnyH_take (i := 5) (oi := { dst := some 67, op := Op.slice 22 (Operand.tmp 66) (some (Operand.const (Value.int IntKind.i64 1))) none none, type := 22, pos := "l07_window.go:72", after := #[{ on := 4, ground := Ground.data }], guard := none }) (v := ?_) rfl (by kernel_rfl) (by kernel_rfl) (by kernel_rfl) (fun _ _ _ h => h) (Or.inl ⟨by rfl, ?_⟩) (by assumption) ?_
            rotate_left
            · (intro w hSw; (try dsimp only at hSw); go_simp) <;> with_reducible rfl
            try simp only [Act.put, List.setIfInBounds_toArray, List.set_cons_zero, List.set_cons_succ]
            refine wpAnyH_ready (rs := [2]) (by kernel_rfl) (by simp) ?_
            refine AllReadyH.cons (o := { dst := some 64, op := Op.buildSlice 22 1 #[(0, Operand.tmp 63)], type := 22, pos := "l07_window.go:72", after := #[{ on := 1, ground := Ground.data }], guard := none }) rfl (fun K hK => ?_) AllReadyH.nil
            go_simp
            try go_wp2_with fail
            have hk2 := KW.below (w := w) (ta := ta) (tl := tl) (tc := tc) HS0.out ((Below.refl Wd.heap.size Wd).alloc (Nat.le_refl _) (Obj.cells #[.string Y] 9))
            have hz2' := HS0.out.2.1.1.1
            have hz3 := HS0.out.2.2.1.1.1
            refine hK.out _ _ ⟨hk2.1, hk2.2.1.1.1, hk2.2.1.1.2 2 (by simp)⟩ (fun _ => ?_)
            clear hK K
            try simp only [Act.put, List.setIfInBounds_toArray, List.set_cons_zero, List.set_cons_succ]
            refine wpAnyH_ready (rs := [3]) (by kernel_rfl) (by simp) ?_
            refine AllReadyH.cons (o := { dst := some 65, op := Op.call { callee := Callee.builtin Builtin.append, args := #[Operand.tmp 62, Operand.tmp 64], argTypes := #[22, 22] }, type := 22, pos := "l07_window.go:72", after := #[{ on := 0, ground := Ground.data }, { on := 2, ground := Ground.data }], guard := none }) rfl (fun K hK => ?_) AllReadyH.nil
            refine step_append_own rfl _ _ 22 rfl (w.heap.size + 3) 9 i0 (.string ⟨#[]⟩) 1 16 Tryd.underlying22 hi hz0 hz1 hz2 rfl sz3 _ _ _ rfl hk2.2.2.2 ⟨Wd.heap.size, 0, none⟩ 1 1 [.string Y] rfl rfl (one_cell _ _ _) (one_one _) sz1 sz2 (by simp; omega) ?_
            intro v' w4 hown hgrow hne
            have hk3 : KW w ta tl tc (P ++ [Y]) v' w4 := KW.app (w := w) (ta := ta) (tl := tl) (tc := tc) hk2 hown hgrow
            refine hK.out _ _ ⟨hk3.1, hk3.2.1.1.1, hk3.2.1.1.2 2 (by simp)⟩ (fun _ => ?_)
            clear hK K
            try simp only [Act.put, List.setIfInBounds_toArray, List.set_cons_zero, List.set_cons_succ]
            refine wpAnyH_take (i := 6) (oi := { dst := some 5, op := Op.assign (Operand.tmp 65), type := 22, pos := "l07_window.go:72", after := #[{ on := 3, ground := Ground.data }, { on := 3, ground := Ground.chain }, { on := 0, ground := Ground.phase }, { on := 1, ground := Ground.phase }, { on := 2, ground := Ground.phase }, { on := 3, ground := Ground.phase }, { on := 4, ground := Ground.textOnly Departure.lateStores }, { on := 5, ground := Ground.textOnly Departure.lateStoresUnsure }], guard := none }) (v := ?_) rfl (by kernel_rfl) (by kernel_rfl) (by kernel_rfl) (fun _ _ _ h => h) (Or.inl ⟨by rfl, ?_⟩) (by assumption) ?_
            rotate_left
            · (intro w hSw; (try dsimp only at hSw); go_simp) <;> with_reducible rfl
            try simp only [Act.put, List.setIfInBounds_toArray, List.set_cons_zero, List.set_cons_succ]
            refine wpAnyH_take (i := 7) (oi := { dst := some 7, op := Op.assign (Operand.tmp 67), type := 22, pos := "l07_window.go:72", after := #[{ on := 5, ground := Ground.data }, { on := 6, ground := Ground.chain }, { on := 0, ground := Ground.phase }, { on := 1, ground := Ground.phase }, { on := 2, ground := Ground.phase }, { on := 3, ground := Ground.phase }, { on := 4, ground := Ground.phase }, { on := 5, ground := Ground.phase }, { on := 6, ground := Ground.phase }], guard := none }) (v := ?_) rfl (by kernel_rfl) (by kernel_rfl) (by kernel_rfl) (fun _ _ _ h => h) (Or.inl ⟨by rfl, ?_⟩) (by assumption) ?_
            rotate_left
            · (intro w hSw; (try dsimp only at hSw); go_simp) <;> with_reducible rfl
            try simp only [Act.put, List.setIfInBounds_toArray, List.set_cons_zero, List.set_cons_succ]
            refine wpAnyH_done (by kernel_rfl) ?_ _
            have HKF := hid_intro hk3
            clear hk3 hk2 hown hgrow hne hz2' hz3 HS0
            go_wp2_with fail
            go_roundw
            case rel => exact ⟨P ++ [Y], (X :: L), Q, HLL, hid_intro (KR1.out (by first | rfl | trivial)), by have := HLn.out; have := HRn.out; simp; omega, hid_intro (by rw [← HR.out, List.append_assoc]; exact congrArg _ HMG.out.symm), HKF⟩
            case measure => first | (simp [slen]; done) | (simp [slen]; omega)
          · have hr1 : (1 : Int) ≤ (rc : Int) := by omega
            have hr2 : (1 : Int) ≤ (rl : Int) + 1 := by omega
            have HS0 : Hid (KW w ta tl tc P bv W2.drew) := hid_intro (KW.below (w := w) (ta := ta) (tl := tl) (tc := tc) HK2.out (Below.refl _ _).drew)
            clear HK2
            refine wp_region_held_drew (S := (fun W => Below w.heap.size w W ∧ w.heap.size < W.heap.size ∧ W.cell? ⟨w.heap.size, 2, none⟩ = some (.func (.func 89) #[] #[]))) (by kernel_rfl) ⟨HS0.out.1, HS0.out.2.1.1.1, HS0.out.2.1.1.2 2 (by simp)⟩ (fun hHeld => ?_)
            obtain ⟨Wd, hWd⟩ : ∃ Wd, Wd = W2.drew := ⟨_, rfl⟩
            rw [← hWd] at HS0 ⊢
            try rw [← hWd] at hHeld
            clear hWd
            refine wpAnyH_take (i := 0) (oi := { dst := some 62, op := Op.move (Operand.tmp 5), type := 22, pos := "l07_window.go:72", after := #[], guard := none }) (v := ?_) rfl (by kernel_rfl) (by kernel_rfl) (by kernel_rfl) (fun _ _ _ h => h) (Or.inl ⟨by rfl, ?_⟩) (by assumption) ?_
            rotate_left
            · (intro w hSw; (try dsimp only at hSw); go_simp) <;> with_reducible rfl
            try simp only [Act.put, List.setIfInBounds_toArray, List.set_cons_zero, List.set_cons_succ]
            refine wpAnyH_take (i := 1) (oi := { dst := some 63, op := Op.move (Operand.tmp 9), type := 9, pos := "l07_window.go:72", after := #[], guard := none }) (v := ?_) rfl (by kernel_rfl) (by kernel_rfl) (by kernel_rfl) (fun _ _ _ h => h) (Or.inl ⟨by rfl, ?_⟩) (by assumption) ?_
            rotate_left
            · (intro w hSw; (try dsimp only at hSw); go_simp) <;> with_reducible rfl
            try simp only [Act.put, List.setIfInBounds_toArray, List.set_cons_zero, List.set_cons_succ]
            refine wpAnyH_take (i := 4) (oi := { dst := some 66, op := Op.move (Operand.tmp 7), type := 22, pos := "l07_window.go:72", after := #[], guard := none }) (v := ?_) rfl (by kernel_rfl) (by kernel_rfl) (by kernel_rfl) (fun _ _ _ h => h) (Or.inl ⟨by rfl, ?_⟩) (by assumption) ?_
            rotate_left
            · (intro w hSw; (try dsimp only at hSw); go_simp) <;> with_reducible rfl
            try simp only [Act.put, List.setIfInBounds_toArray, List.set_cons_zero, List.set_cons_succ]
            refine wpAnyH_take (i := 5) (oi := { dst := some 67, op := Op.slice 22 (Operand.tmp 66) (some (Operand.const (Value.int IntKind.i64 1))) none none, type := 22, pos := "l07_window.go:72", after := #[{ on := 4, ground := Ground.data }], guard := none }) (v := ?_) rfl (by kernel_rfl) (by kernel_rfl) (by kernel_rfl) (fun _ _ _ h => h) (Or.inl ⟨by rfl, ?_⟩) (by assumption) ?_
            rotate_left
            · (intro w hSw; (try dsimp only at hSw); go_simp) <;> with_reducible rfl
            try simp only [Act.put, List.setIfInBounds_toArray, List.set_cons_zero, List.set_cons_succ]
            refine wpAnyH_ready (rs := [2]) (by kernel_rfl) (by simp) ?_
            refine AllReadyH.cons (o := { dst := some 64, op := Op.buildSlice 22 1 #[(0, Operand.tmp 63)], type := 22, pos := "l07_window.go:72", after := #[{ on := 1, ground := Ground.data }], guard := none }) rfl (fun K hK => ?_) AllReadyH.nil
            go_simp
            try go_wp2_with fail
            have hk2 := KW.below (w := w) (ta := ta) (tl := tl) (tc := tc) HS0.out ((Below.refl Wd.heap.size Wd).alloc (Nat.le_refl _) (Obj.cells #[.string Y] 9))
            have hz2' := HS0.out.2.1.1.1
            have hz3 := HS0.out.2.2.1.1.1
            refine hK.out _ _ ⟨hk2.1, hk2.2.1.1.1, hk2.2.1.1.2 2 (by simp)⟩ (fun _ => ?_)
            clear hK K
            try simp only [Act.put, List.setIfInBounds_toArray, List.set_cons_zero, List.set_cons_succ]
            refine wpAnyH_ready (rs := [3]) (by kernel_rfl) (by simp) ?_
            refine AllReadyH.cons (o := { dst := some 65, op := Op.call { callee := Callee.builtin Builtin.append, args := #[Operand.tmp 62, Operand.tmp 64], argTypes := #[22, 22] }, type := 22, pos := "l07_window.go:72", after := #[{ on := 0, ground := Ground.data }, { on := 2, ground := Ground.data }], guard := none }) rfl (fun K hK => ?_) AllReadyH.nil
            refine step_append_own rfl _ _ 22 rfl (w.heap.size + 3) 9 i0 (.string ⟨#[]⟩) 1 16 Tryd.underlying22 hi hz0 hz1 hz2 rfl sz3 _ _ _ rfl hk2.2.2.2 ⟨Wd.heap.size, 0, none⟩ 1 1 [.string Y] rfl rfl (one_cell _ _ _) (one_one _) sz1 sz2 (by simp; omega) ?_
            intro v' w4 hown hgrow hne
            have hk3 : KW w ta tl tc (P ++ [Y]) v' w4 := KW.app (w := w) (ta := ta) (tl := tl) (tc := tc) hk2 hown hgrow
            refine hK.out _ _ ⟨hk3.1, hk3.2.1.1.1, hk3.2.1.1.2 2 (by simp)⟩ (fun _ => ?_)
            clear hK K
            try simp only [Act.put, List.setIfInBounds_toArray, List.set_cons_zero, List.set_cons_succ]
            refine wpAnyH_take (i := 6) (oi := { dst := some 5, op := Op.assign (Operand.tmp 65), type := 22, pos := "l07_window.go:72", after := #[{ on := 3, ground := Ground.data }, { on := 3, ground := Ground.chain }, { on := 0, ground := Ground.phase }, { on := 1, ground := Ground.phase }, { on := 2, ground := Ground.phase }, { on := 3, ground := Ground.phase }, { on := 4, ground := Ground.textOnly Departure.lateStores }, { on := 5, ground := Ground.textOnly Departure.lateStoresUnsure }], guard := none }) (v := ?_) rfl (by kernel_rfl) (by kernel_rfl) (by kernel_rfl) (fun _ _ _ h => h) (Or.inl ⟨by rfl, ?_⟩) (by assumption) ?_
            rotate_left
            · (intro w hSw; (try dsimp only at hSw); go_simp) <;> with_reducible rfl
            try simp only [Act.put, List.setIfInBounds_toArray, List.set_cons_zero, List.set_cons_succ]
            refine wpAnyH_take (i := 7) (oi := { dst := some 7, op := Op.assign (Operand.tmp 67), type := 22, pos := "l07_window.go:72", after := #[{ on := 5, ground := Ground.data }, { on := 6, ground := Ground.chain }, { on := 0, ground := Ground.phase }, { on := 1, ground := Ground.phase }, { on := 2, ground := Ground.phase }, { on := 3, ground := Ground.phase }, { on := 4, ground := Ground.phase }, { on := 5, ground := Ground.phase }, { on := 6, ground := Ground.phase }], guard := none }) (v := ?_) rfl (by kernel_rfl) (by kernel_rfl) (by kernel_rfl) (fun _ _ _ h => h) (Or.inl ⟨by rfl, ?_⟩) (by assumption) ?_
            rotate_left
            · (intro w hSw; (try dsimp only at hSw); go_simp) <;> with_reducible rfl
            try simp only [Act.put, List.setIfInBounds_toArray, List.set_cons_zero, List.set_cons_succ]
            refine wpAnyH_done (by kernel_rfl) ?_ _
            have HKF := hid_intro hk3
            clear hk3 hk2 hown hgrow hne hz2' hz3 HS0
            go_wp2_with fail
            go_roundw
            case rel => exact ⟨P ++ [Y], (X :: L), Q, HLL, hid_intro (KR2.out hrc), by have := HLn.out; have := HRn.out; simp; omega, hid_intro (by rw [← HR.out, List.append_assoc]; exact congrArg _ HMG.out.symm), HKF⟩
            case measure => first | (simp [slen]; done) | (simp [slen]; omega)
      · have hcm : cmpT X Y = -1 := by unfold cmpT; rw [hlt]; rfl
        have HMG : Hid (mrg lt fstT (X :: L) (Y :: Q) = X :: mrg lt fstT L (Y :: Q)) := hid_intro (by rw [mrg, if_pos hlt])
        have HC : Hid (∀ w, Calls Tryd.prog 105 #[.string X, .string Y] w fun e w' => e = .returned (.int .i64 (-1)) ∧ w' = w) := hid_intro (fun w => by have h := cmpS X Y w; rw [hcm] at h; exact h)
        clear hcm
        try clear hlt
        try clear hgt
        go_wp2_with fail
        go_quiet (fail)
        go_wp2_with fail
        obtain ⟨W1, hW1⟩ : ∃ W1, W1 = wr.drewN nq := ⟨_, rfl⟩
        rw [← hW1]
        have HK1 : Hid (KW w ta tl tc P bv W1) := hid_intro (by rw [hW1]; exact KW.below (w := w) (ta := ta) (tl := tl) (tc := tc) HK.out (bdN2 (Below.refl _ _) _))
        clear hW1 HK gx gy cX cY
        have x1 : W1.cell? ⟨w.heap.size, 1, none⟩ = some (.func (.func 88) #[] #[]) := HK1.out.2.1.1.2 1 (by simp)
        have xl := HK1.out.2.1.1.1
        go_quiet ((first | (go_at_call 88; exact Calls.quiet_of_same (HKEY.out _ _)) | (go_at_call 105; exact Calls.quiet_of_same (HC.out _))))
        go_wp2_with fail
        obtain ⟨W2, hW2⟩ : ∃ W2, W2 = W1.drewN nq := ⟨_, rfl⟩
        rw [← hW2]
        have HK2 : Hid (KW w ta tl tc P bv W2) := hid_intro (by rw [hW2]; exact KW.below (w := w) (ta := ta) (tl := tl) (tc := tc) HK1.out (bdN2 (Below.refl _ _) _))
        clear hW2 HK1 x1 xl HC
        by_cases hlc : lc = 1
        · have hl1 : lc = 1 := hlc
          obtain rfl : ll = 0 := by omega
          subst hl1
          have HS0 : Hid (KW w ta tl tc P bv W2.drew) := hid_intro (KW.below (w := w) (ta := ta) (tl := tl) (tc := tc) HK2.out (Below.refl _ _).drew)
          clear HK2
          refine wp_region_held_drew (S := (fun W => Below w.heap.size w W ∧ w.heap.size < W.heap.size ∧ W.cell? ⟨w.heap.size, 2, none⟩ = some (.func (.func 89) #[] #[]))) (by kernel_rfl) ⟨HS0.out.1, HS0.out.2.1.1.1, HS0.out.2.1.1.2 2 (by simp)⟩ (fun hHeld => ?_)
          obtain ⟨Wd, hWd⟩ : ∃ Wd, Wd = W2.drew := ⟨_, rfl⟩
          rw [← hWd] at HS0 ⊢
          try rw [← hWd] at hHeld
          clear hWd
          refine wpAnyH_take (i := 0) (oi := { dst := some 53, op := Op.move (Operand.tmp 5), type := 22, pos := "l07_window.go:70", after := #[], guard := none }) (v := ?_) rfl (by kernel_rfl) (by kernel_rfl) (by kernel_rfl) (fun _ _ _ h => h) (Or.inl ⟨by rfl, ?_⟩) (by assumption) ?_
          rotate_left
          · (intro w hSw; (try dsimp only at hSw); go_simp) <;> with_reducible rfl
          try simp only [Act.put, List.setIfInBounds_toArray, List.set_cons_zero, List.set_cons_succ]
          refine wpAnyH_take (i := 1) (oi := { dst := some 54, op := Op.move (Operand.tmp 8), type := 9, pos := "l07_window.go:70", after := #[], guard := none }) (v := ?_) rfl (by kernel_rfl) (by kernel_rfl) (by kernel_rfl) (fun _ _ _ h => h) (Or.inl ⟨by rfl, ?_⟩) (by assumption) ?_
          rotate_left
          · (intro w hSw; (try dsimp only at hSw); go_simp) <;> with_reducible rfl
          try simp only [Act.put, List.setIfInBounds_toArray, List.set_cons_zero, List.set_cons_succ]
          refine wpAnyH_take (i := 4) (oi := { dst := some 57, op := Op.move (Operand.tmp 6), type := 22, pos := "l07_window.go:70", after := #[], guard := none }) (v := ?_) rfl (by kernel_rfl) (by kernel_rfl) (by kernel_rfl) (fun _ _ _ h => h) (Or.inl ⟨by rfl, ?_⟩) (by assumption) ?_
          rotate_left
          · (intro w hSw; (try dsimp only at hSw); go_simp) <;> with_reducible rfl
          try simp only [Act.put, List.setIfInBounds_toArray, List.set_cons_zero, List.set_cons_succ]
          refine wpAnyH_take (i := 5) (oi := { dst := some 58, op := Op.slice 22 (Operand.tmp 57) (some (Operand.const (Value.int IntKind.i64 1))) none none, type := 22, pos := "l07_window.go:70", after := #[{ on := 4, ground := Ground.data }], guard := none }) (v := ?_) rfl (by kernel_rfl) (by kernel_rfl) (by kernel_rfl) (fun _ _ _ h => h) (Or.inl ⟨by rfl, ?_⟩) (by assumption) ?_
          rotate_left
          · (intro w hSw; (try dsimp only at hSw); go_simp) <;> with_reducible rfl
          try simp only [Act.put, List.setIfInBounds_toArray, List.set_cons_zero, List.set_cons_succ]
          refine wpAnyH_ready (rs := [2]) (by kernel_rfl) (by simp) ?_
          refine AllReadyH.cons (o := { dst := some 55, op := Op.buildSlice 22 1 #[(0, Operand.tmp 54)], type := 22, pos := "l07_window.go:70", after := #[{ on := 1, ground := Ground.data }], guard := none }) rfl (fun K hK => ?_) AllReadyH.nil
          go_simp
          try go_wp2_with fail
          have hk2 := KW.below (w := w) (ta := ta) (tl := tl) (tc := tc) HS0.out ((Below.refl Wd.heap.size Wd).alloc (Nat.le_refl _) (Obj.cells #[.string X] 9))
          have hz2' := HS0.out.2.1.1.1
          have hz3 := HS0.out.2.2.1.1.1
          refine hK.out _ _ ⟨hk2.1, hk2.2.1.1.1, hk2.2.1.1.2 2 (by simp)⟩ (fun _ => ?_)
          clear hK K
          try simp only [Act.put, List.setIfInBounds_toArray, List.set_cons_zero, List.set_cons_succ]
          refine wpAnyH_ready (rs := [3]) (by kernel_rfl) (by simp) ?_
          refine AllReadyH.cons (o := { dst := some 56, op := Op.call { callee := Callee.builtin Builtin.append, args := #[Operand.tmp 53, Operand.tmp 55], argTypes := #[22, 22] }, type := 22, pos := "l07_window.go:70", after := #[{ on := 0, ground := Ground.data }, { on := 2, ground := Ground.data }], guard := none }) rfl (fun K hK => ?_) AllReadyH.nil
          refine step_append_own rfl _ _ 22 rfl (w.heap.size + 3) 9 i0 (.string ⟨#[]⟩) 1 16 Tryd.underlying22 hi hz0 hz1 hz2 rfl sz3 _ _ _ rfl hk2.2.2.2 ⟨Wd.heap.size, 0, none⟩ 1 1 [.string X] rfl rfl (one_cell _ _ _) (one_one _) sz1 sz2 (by simp; omega) ?_
          intro v' w4 hown hgrow hne
          have hk3 : KW w ta tl tc (P ++ [X]) v' w4 := KW.app (w := w) (ta := ta) (tl := tl) (tc := tc) hk2 hown hgrow
          refine hK.out _ _ ⟨hk3.1, hk3.2.1.1.1, hk3.2.1.1.2 2 (by simp)⟩ (fun _ => ?_)
          clear hK K
          try simp only [Act.put, List.setIfInBounds_toArray, List.set_cons_zero, List.set_cons_succ]
          refine wpAnyH_take (i := 6) (oi := { dst := some 5, op := Op.assign (Operand.tmp 56), type := 22, pos := "l07_window.go:70", after := #[{ on := 3, ground := Ground.data }, { on := 3, ground := Ground.chain }, { on := 0, ground := Ground.phase }, { on := 1, ground := Ground.phase }, { on := 2, ground := Ground.phase }, { on := 3, ground := Ground.phase }, { on := 4, ground := Ground.textOnly Departure.lateStores }, { on := 5, ground := Ground.textOnly Departure.lateStoresUnsure }], guard := none }) (v := ?_) rfl (by kernel_rfl) (by kernel_rfl) (by kernel_rfl) (fun _ _ _ h => h) (Or.inl ⟨by rfl, ?_⟩) (by assumption) ?_
          rotate_left
          · (intro w hSw; (try dsimp only at hSw); go_simp) <;> with_reducible rfl
          try simp only [Act.put, List.setIfInBounds_toArray, List.set_cons_zero, List.set_cons_succ]
          refine wpAnyH_take (i := 7) (oi := { dst := some 6, op := Op.assign (Operand.tmp 58), type := 22, pos := "l07_window.go:70", after := #[{ on := 5, ground := Ground.data }, { on := 6, ground := Ground.chain }, { on := 0, ground := Ground.phase }, { on := 1, ground := Ground.phase }, { on := 2, ground := Ground.phase }, { on := 3, ground := Ground.phase }, { on := 4, ground := Ground.phase }, { on := 5, ground := Ground.phase }, { on := 6, ground := Ground.phase }], guard := none }) (v := ?_) rfl (by kernel_rfl) (by kernel_rfl) (by kernel_rfl) (fun _ _ _ h => h) (Or.inl ⟨by rfl, ?_⟩) (by assumption) ?_
          rotate_left
          · (intro w hSw; (try dsimp only at hSw); go_simp) <;> with_reducible rfl
          try simp only [Act.put, List.setIfInBounds_toArray, List.set_cons_zero, List.set_cons_succ]
          refine wpAnyH_done (by kernel_rfl) ?_ _
          have HKF := hid_intro hk3
          clear hk3 hk2 hown hgrow hne hz2' hz3 HS0
          go_wp2_with fail
          go_roundw
          case rel => exact ⟨P ++ [X], L, (Y :: Q), hid_intro (KL1.out (by first | rfl | trivial)), HQQ, by have := HLn.out; have := HRn.out; simp; omega, hid_intro (by rw [← HR.out, List.append_assoc]; exact congrArg _ HMG.out.symm), HKF⟩
          case measure => first | (simp [slen]; done) | (simp [slen]; omega)
        · have hl1 : (1 : Int) ≤ (lc : Int) := by omega
          have hl2 : (1 : Int) ≤ (ll : Int) + 1 := by omega
          have HS0 : Hid (KW w ta tl tc P bv W2.drew) := hid_intro (KW.below (w := w) (ta := ta) (tl := tl) (tc := tc) HK2.out (Below.refl _ _).drew)
          clear HK2
          refine wp_region_held_drew (S := (fun W => Below w.heap.size w W ∧ w.heap.size < W.heap.size ∧ W.cell? ⟨w.heap.size, 2, none⟩ = some (.func (.func 89) #[] #[]))) (by kernel_rfl) ⟨HS0.out.1, HS0.out.2.1.1.1, HS0.out.2.1.1.2 2 (by simp)⟩ (fun hHeld => ?_)
          obtain ⟨Wd, hWd⟩ : ∃ Wd, Wd = W2.drew := ⟨_, rfl⟩
          rw [← hWd] at HS0 ⊢
          try rw [← hWd] at hHeld
          clear hWd
          refine wpAnyH_take (i := 0) (oi := { dst := some 53, op := Op.move (Operand.tmp 5), type := 22, pos := "l07_window.go:70", after := #[], guard := none }) (v := ?_) rfl (by kernel_rfl) (by kernel_rfl) (by kernel_rfl) (fun _ _ _ h => h) (Or.inl ⟨by rfl, ?_⟩) (by assumption) ?_
          rotate_left
          · (intro w hSw; (try dsimp only at hSw); go_simp) <;> with_reducible rfl
          try simp only [Act.put, List.setIfInBounds_toArray, List.set_cons_zero, List.set_cons_succ]
          refine wpAnyH_take (i := 1) (oi := { dst := some 54, op := Op.move (Operand.tmp 8), type := 9, pos := "l07_window.go:70", after := #[], guard := none }) (v := ?_) rfl (by kernel_rfl) (by kernel_rfl) (by kernel_rfl) (fun _ _ _ h => h) (Or.inl ⟨by rfl, ?_⟩) (by assumption) ?_
          rotate_left
          · (intro w hSw; (try dsimp only at hSw); go_simp) <;> with_reducible rfl
          try simp only [Act.put, List.setIfInBounds_toArray, List.set_cons_zero, List.set_cons_succ]
          refine wpAnyH_take (i := 4) (oi := { dst := some 57, op := Op.move (Operand.tmp 6), type := 22, pos := "l07_window.go:70", after := #[], guard := none }) (v := ?_) rfl (by kernel_rfl) (by kernel_rfl) (by kernel_rfl) (fun _ _ _ h => h) (Or.inl ⟨by rfl, ?_⟩) (by assumption) ?_
          rotate_left
          · (intro w hSw; (try dsimp only at hSw); go_simp) <;> with_reducible rfl
          try simp only [Act.put, List.setIfInBounds_toArray, List.set_cons_zero, List.set_cons_succ]
          refine wpAnyH_take (i := 5) (oi := { dst := some 58, op := Op.slice 22 (Operand.tmp 57) (some (Operand.const (Value.int IntKind.i64 1))) none none, type := 22, pos := "l07_window.go:70", after := #[{ on := 4, ground := Ground.data }], guard := none }) (v := ?_) rfl (by kernel_rfl) (by kernel_rfl) (by kernel_rfl) (fun _ _ _ h => h) (Or.inl ⟨by rfl, ?_⟩) (by assumption) ?_
          rotate_left
          · (intro w hSw; (try dsimp only at hSw); go_simp) <;> with_reducible rfl
          try simp only [Act.put, List.setIfInBounds_toArray, List.set_cons_zero, List.set_cons_succ]
          refine wpAnyH_ready (rs := [2]) (by kernel_rfl) (by simp) ?_
          refine AllReadyH.cons (o := { dst := some 55, op := Op.buildSlice 22 1 #[(0, Operand.tmp 54)], type := 22, pos := "l07_window.go:70", after := #[{ on := 1, ground := Ground.data }], guard := none }) rfl (fun K hK => ?_) AllReadyH.nil
          go_simp
          try go_wp2_with fail
          have hk2 := KW.below (w := w) (ta := ta) (tl := tl) (tc := tc) HS0.out ((Below.refl Wd.heap.size Wd).alloc (Nat.le_refl _) (Obj.cells #[.string X] 9))
          have hz2' := HS0.out.2.1.1.1
          have hz3 := HS0.out.2.2.1.1.1
          refine hK.out _ _ ⟨hk2.1, hk2.2.1.1.1, hk2.2.1.1.2 2 (by simp)⟩ (fun _ => ?_)
          clear hK K
          try simp only [Act.put, List.setIfInBounds_toArray, List.set_cons_zero, List.set_cons_succ]
          refine wpAnyH_ready (rs := [3]) (by kernel_rfl) (by simp) ?_
          refine AllReadyH.cons (o := { dst := some 56, op := Op.call { callee := Callee.builtin Builtin.append, args := #[Operand.tmp 53, Operand.tmp 55], argTypes := #[22, 22] }, type := 22, pos := "l07_window.go:70", after := #[{ on := 0, ground := Ground.data }, { on := 2, ground := Ground.data }], guard := none }) rfl (fun K hK => ?_) AllReadyH.nil
          refine step_append_own rfl _ _ 22 rfl (w.heap.size + 3) 9 i0 (.string ⟨#[]⟩) 1 16 Tryd.underlying22 hi hz0 hz1 hz2 rfl sz3 _ _ _ rfl hk2.2.2.2 ⟨Wd.heap.size, 0, none⟩ 1 1 [.string X] rfl rfl (one_cell _ _ _) (one_one _) sz1 sz2 (by simp; omega) ?_
          intro v' w4 hown hgrow hne
          have hk3 : KW w ta tl tc (P ++ [X]) v' w4 := KW.app (w := w) (ta := ta) (tl := tl) (tc := tc) hk2 hown hgrow
          refine hK.out _ _ ⟨hk3.1, hk3.2.1.1.1, hk3.2.1.1.2 2 (by simp)⟩ (fun _ => ?_)
          clear hK K
          try simp only [Act.put, List.setIfInBounds_toArray, List.set_cons_zero, List.set_cons_succ]
          refine wpAnyH_take (i := 6) (oi := { dst := some 5, op := Op.assign (Operand.tmp 56), type := 22, pos := "l07_window.go:70", after := #[{ on := 3, ground := Ground.data }, { on := 3, ground := Ground.chain }, { on := 0, ground := Ground.phase }, { on := 1, ground := Ground.phase }, { on := 2, ground := Ground.phase }, { on := 3, ground := Ground.phase }, { on := 4, ground := Ground.textOnly Departure.lateStores }, { on := 5, ground := Ground.textOnly Departure.lateStoresUnsure }], guard := none }) (v := ?_) rfl (by kernel_rfl) (by kernel_rfl) (by kernel_rfl) (fun _ _ _ h => h) (Or.inl ⟨by rfl, ?_⟩) (by assumption) ?_
          rotate_left
          · (intro w hSw; (try dsimp only at hSw); go_simp) <;> with_reducible rfl
          try simp only [Act.put, List.setIfInBounds_toArray, List.set_cons_zero, List.set_cons_succ]
          refine wpAnyH_take (i := 7) (oi := { dst := some 6, op := Op.assign (Operand.tmp 58), type := 22, pos := "l07_window.go:70", after := #[{ on := 5, ground := Ground.data }, { on := 6, ground := Ground.chain }, { on := 0, ground := Ground.phase }, { on := 1, ground := Ground.phase }, { on := 2, ground := Ground.phase }, { on := 3, ground := Ground.phase }, { on := 4, ground := Ground.phase }, { on := 5, ground := Ground.phase }, { on := 6, ground := Ground.phase }], guard := none }) (v := ?_) rfl (by kernel_rfl) (by kernel_rfl) (by kernel_rfl) (fun _ _ _ h => h) (Or.inl ⟨by rfl, ?_⟩) (by assumption) ?_
          rotate_left
          · (intro w hSw; (try dsimp only at hSw); go_simp) <;> with_reducible rfl
          try simp only [Act.put, List.setIfInBounds_toArray, List.set_cons_zero, List.set_cons_succ]
          refine wpAnyH_done (by kernel_rfl) ?_ _
          have HKF := hid_intro hk3
          clear hk3 hk2 hown hgrow hne hz2' hz3 HS0
          go_wp2_with fail
          go_roundw
          case rel => exact ⟨P ++ [X], L, (Y :: Q), hid_intro (KL2.out hlc), HQQ, by have := HLn.out; have := HRn.out; simp; omega, hid_intro (by rw [← HR.out, List.append_assoc]; exact congrArg _ HMG.out.symm), HKF⟩
          case measure => first | (simp [slen]; done) | (simp [slen]; omega)

end WinR
end Go.Proofs.YtnlmpejgiakepaaDoor
namespace Go.Proofs.YtnlmpejgiakepaaDoor
open Go.ChangeShapes Go.WideShapes Go.ChangeAt Go.RowKit
set_option linter.unusedVariables false
namespace WinR
theorem nanI (x : Int) (w : World) : Calls Tryd.prog 117 #[.int .i64 x] w fun e w' => e = .returned (.bool false) ∧ w' = w := by
  go_enter Tryd.func117, Tryd.ntmps117
  go_wp2
  go_ret
  exact ⟨by simp, rfl⟩
/-- How two hours stand. -/
def cmpH (x y : Int) : Int := if x < y then -1 else if y < x then 1 else 0
theorem cmpI (x y : Int) (w : World) : Calls Tryd.prog 106 #[.int .i64 x, .int .i64 y] w fun e w' => e = .returned (.int .i64 (cmpH x y)) ∧ w' = w := by
  have HN := hid_intro nanI
  unfold cmpH
  rcases (show x < y ∨ (¬ x < y ∧ y < x) ∨ (¬ x < y ∧ ¬ y < x) by omega) with h1 | ⟨h1, h2⟩ | ⟨h1, h2⟩
  · rw [if_pos h1]
    go_enter Tryd.func106, Tryd.ntmps106
    go_wp2_with (first | (go_at_call 117; refine (HN.out _ _).mono ?_; rintro e w' ⟨rfl, rfl⟩))
    go_ret
    exact ⟨by first | rfl | simp, rfl⟩
  · rw [if_neg h1, if_pos h2]
    go_enter Tryd.func106, Tryd.ntmps106
    go_wp2_with (first | (go_at_call 117; refine (HN.out _ _).mono ?_; rintro e w' ⟨rfl, rfl⟩))
    go_ret
    exact ⟨by first | rfl | simp, rfl⟩
  · rw [if_neg h1, if_neg h2]
    go_enter Tryd.func106, Tryd.ntmps106
    go_wp2_with (first | (go_at_call 117; refine (HN.out _ _).mono ?_; rintro e w' ⟨rfl, rfl⟩))
    go_ret
    exact ⟨by first | rfl | simp, rfl⟩
theorem hmeet (x y : H) (w : World) (hx : 0 ≤ x.s ∧ x.s ≤ 1000000000000000) (hy : 0 ≤ y.s ∧ y.s ≤ 1000000000000000) : Calls Tryd.prog 91 #[.agg #[.int .i64 x.h, .int .i64 x.s], .agg #[.int .i64 y.h, .int .i64 y.s]] w fun e w' => e = .returned (.agg #[.int .i64 (addH x y).h, .int .i64 (addH x y).s]) ∧ Below w.heap.size w w' := by
  obtain ⟨a, s⟩ := x
  obtain ⟨b, t⟩ := y
  unfold addH
  dsimp only at *
  go_enter Tryd.func91, Tryd.ntmps91
  go_wp2_with fail
  refine bodyPost_ret (v := .agg #[.int .i64 a, .int .i64 (s + t)]) (by simp [results, Tryd.results91, go_sem]) rfl ⟨rfl, ?_⟩
  repeat' first | exact Below.refl _ _ | apply Below.setCell | apply Below.alloc
  all_goals first | omega | (simp; done) | (simp; omega)
theorem splus (e1 s1 m1 e2 s2 m2 : Int) (w : World) (h1 : 0 ≤ e1 ∧ e1 ≤ 1000000000000000) (h2 : 0 ≤ e2 ∧ e2 ≤ 1000000000000000) (h3 : 0 ≤ s1 ∧ s1 ≤ 1000000000000000) (h4 : 0 ≤ s2 ∧ s2 ≤ 1000000000000000) :
    Calls Tryd.prog 77 #[.agg #[.int .i64 e1, .int .i64 s1, .int .i64 m1], .agg #[.int .i64 e2, .int .i64 s2, .int .i64 m2]] w fun e w' => e = .returned (.agg #[.int .i64 (e1 + e2), .int .i64 (s1 + s2), .int .i64 (max m1 m2)]) ∧ Below w.heap.size w w' := by
  by_cases h : m1 < m2
  · rw [show max m1 m2 = m2 by omega]
    go_enter Tryd.func77, Tryd.ntmps77
    go_wp2_with fail
    refine bodyPost_ret (v := .agg #[.int .i64 (e1 + e2), .int .i64 (s1 + s2), .int .i64 m2]) (by simp [results, Tryd.results77, go_sem]) rfl ⟨rfl, ?_⟩
    repeat' first | exact Below.refl _ _ | apply Below.setCell | apply Below.alloc
    all_goals first | omega | (simp; done) | (simp; omega)
  · rw [show max m1 m2 = m1 by omega]
    go_enter Tryd.func77, Tryd.ntmps77
    go_wp2_with fail
    refine bodyPost_ret (v := .agg #[.int .i64 (e1 + e2), .int .i64 (s1 + s2), .int .i64 m1]) (by simp [results, Tryd.results77, go_sem]) rfl ⟨rfl, ?_⟩
    repeat' first | exact Below.refl _ _ | apply Below.setCell | apply Below.alloc
    all_goals first | omega | (simp; done) | (simp; omega)
theorem smax (x y : Int) (w : World) : Calls Tryd.prog 48 #[.int .i64 x, .int .i64 y] w fun e w' => e = .returned (.int .i64 (max x y)) ∧ w' = w := by
  by_cases h : y < x
  · rw [show max x y = x by omega]
    go_enter Tryd.func48, Tryd.ntmps48
    go_wp2
    go_ret
    exact ⟨rfl, rfl⟩
  · rw [show max x y = y by omega]
    go_enter Tryd.func48, Tryd.ntmps48
    go_wp2
    go_ret
    exact ⟨rfl, rfl⟩
end WinR
end Go.Proofs.YtnlmpejgiakepaaDoor
