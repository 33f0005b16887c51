/-
  PutNum: what the model and the program hand back is one text, the digits of the folded number. No condition but that the number is of int64.
-/
import Derived.Test.YtnpnegcmohgnfaaDoorKit
import Derived.Laws.BytesArg
namespace Go.Proofs.YtnpnegcmohgnfaaDoor
open Go.ChangeShapes Go.WideShapes Go.ChangeAt Go.RowKit
open Go.ChangeMaps (open_string shut_string)
set_option linter.unusedVariables false
namespace NumR
theorem hid_intro {p : Prop} (h : p) : Hid p := h
def foldN (n : Int) : Int := if n < 0 then 2 * -(n + 1) + 1 else 2 * n
theorem fold_bd {n : Int} (hn : -9223372036854775808 ≤ n ∧ n ≤ 9223372036854775807) : 0 ≤ foldN n ∧ foldN n ≤ 18446744073709551615 := by
  unfold foldN; split <;> omega
theorem fold_neg {n : Int} (h : n < 0) : foldN n = 2 * -(n + 1) + 1 := if_pos h
theorem fold_pos {n : Int} (h : 0 ≤ n) : foldN n = 2 * n := if_neg (by omega)
theorem u64wrap (n : Int) : IntKind.u64.wrap n = n % 18446744073709551616 := by simp [IntKind.wrap, IntKind.bits, IntKind.signed]
theorem xor_ones (x : Int) (h0 : 0 ≤ x) (h1 : x ≤ 18446744073709551615) : bits .xor .u64 IntKind.u64.max x = 18446744073709551615 - x := by
  have hm : BitVec.ofInt 64 IntKind.u64.max = BitVec.allOnes 64 := by decide
  have hx : (BitVec.ofInt 64 x).toNat = x.toNat := by
    rw [BitVec.toNat_ofInt]; congr 1; exact Int.emod_eq_of_lt h0 (by omega)
  show IntKind.u64.wrap ((BitVec.ofInt 64 IntKind.u64.max ^^^ BitVec.ofInt 64 x).toNat : Int) = _
  rw [hm, BitVec.allOnes_xor, BitVec.toNat_not, hx, u64wrap]
  omega
theorem fold_bits {n : Int} (h : n < 0) (hn : -9223372036854775808 ≤ n) : bits .xor .u64 IntKind.u64.max (IntKind.u64.wrap (IntKind.u64.wrap n * 2)) = foldN n := by
  have e : IntKind.u64.wrap (IntKind.u64.wrap n * 2) = 2 * n + 18446744073709551616 := by rw [u64wrap, u64wrap]; omega
  rw [e, xor_ones _ (by omega) (by omega), fold_neg h]; omega
theorem spec_fold (n : Int) (w : World) (hn : -9223372036854775808 ≤ n ∧ n ≤ 9223372036854775807) :
    Calls Tryd.prog 73 #[.int .i64 n] w fun e w' => e = .returned (.int .u64 (foldN n)) ∧ w' = w := by
  by_cases h : n < 0
  · rw [fold_neg h]
    go_enter Tryd.func73, Tryd.ntmps73
    go_wp2
    go_ret
    exact ⟨rfl, rfl⟩
  · rw [fold_pos (by omega)]
    go_enter Tryd.func73, Tryd.ntmps73
    go_wp2
    go_ret
    exact ⟨rfl, rfl⟩
theorem impl_fold (n : Int) (w : World) (hn : -9223372036854775808 ≤ n ∧ n ≤ 9223372036854775807) :
    Calls Tryd.prog 62 #[.int .i64 n] w fun e w' => e = .returned (.int .u64 (foldN n)) ∧ w' = w := by
  by_cases h : n < 0
  · have hf := fold_bits h hn.1
    have HF : Hid (bits .xor .u64 IntKind.u64.max (IntKind.u64.wrap (IntKind.u64.wrap n * 2)) = foldN n) := hf
    clear hf
    go_enter Tryd.func62, Tryd.ntmps62
    go_wp2
    go_ret
    exact ⟨ret_int HF.out, rfl⟩
  · have HF : Hid (n * 2 = foldN n) := (show _ = _ by rw [fold_pos (by omega)]; omega)
    go_enter Tryd.func62, Tryd.ntmps62
    go_wp2
    go_ret
    exact ⟨ret_int HF.out, rfl⟩

/-- A number's digits of seven bits, the lowest first, 128 more in all but the last. -/
def digs (v : Nat) : List Int := if v < 128 then [(v : Int)] else ((v : Int) % 128 + 128) :: digs (v / 128)
  termination_by v
  decreasing_by omega
theorem digs_last {v : Nat} (h : v < 128) : digs v = [(v : Int)] := by rw [digs, if_pos h]
theorem digs_more {v : Nat} (h : 128 ≤ v) : digs v = ((v : Int) % 128 + 128) :: digs (v / 128) := by rw [digs, if_neg (by omega)]
/-- What stands of the digits behind some rounds. -/
def Sofar (U : Nat) (acc : List Int) (v : Nat) : Prop := digs U = acc ++ digs v ∧ v * 128 ^ acc.length ≤ U ∧ (acc = [] ∨ 1 ≤ v)
theorem sofar_zero (U : Nat) : Sofar U [] U := ⟨rfl, by simp, .inl rfl⟩
theorem sofar_more {U v : Nat} {acc : List Int} (h : Sofar U acc v) (hv : 128 ≤ v) : Sofar U (acc ++ [((v : Int) % 128 + 128)]) (v / 128) := by
  refine ⟨by rw [h.1, digs_more hv]; simp, ?_, .inr (by omega)⟩
  have h2 := h.2.1
  have : v / 128 * 128 ≤ v := Nat.div_mul_le_self v 128
  simp only [List.length_append, List.length_cons, List.length_nil, Nat.zero_add, Nat.pow_succ]
  calc v / 128 * (128 ^ acc.length * 128) = (v / 128 * 128) * 128 ^ acc.length := by rw [Nat.mul_comm (128 ^ acc.length) 128, Nat.mul_assoc]
    _ ≤ v * 128 ^ acc.length := Nat.mul_le_mul_right _ this
    _ ≤ U := h2
theorem sofar_end {U v : Nat} {acc : List Int} (h : Sofar U acc v) (hv : v < 128) : digs U = acc ++ [(v : Int)] := by rw [h.1, digs_last hv]
theorem pow_le_pow {a b : Nat} (h : a ≤ b) : 128 ^ a ≤ 128 ^ b := Nat.pow_le_pow_right (by omega) h
theorem sofar_len {U v : Nat} {acc : List Int} (h : Sofar U acc v) (hU : U ≤ 18446744073709551615) (hv : 128 ≤ v) : acc.length ≤ 8 := by
  refine Nat.le_of_not_lt fun hlt => ?_
  have h1 := pow_le_pow (show 9 ≤ acc.length by omega)
  have h2 : 128 * 128 ^ 9 ≤ v * 128 ^ acc.length := Nat.mul_le_mul hv h1
  have := Nat.le_trans h2 h.2.1
  omega
theorem sofar_len9 {U v : Nat} {acc : List Int} (h : Sofar U acc v) (hU : U ≤ 18446744073709551615) : acc.length ≤ 9 := by
  refine Nat.le_of_not_lt fun hlt => ?_
  rcases h.2.2 with h0 | h0
  · rw [h0] at hlt; simp at hlt
  · have h1 := pow_le_pow (show 10 ≤ acc.length by omega)
    have h2 : 1 * 128 ^ 10 ≤ v * 128 ^ acc.length := Nat.mul_le_mul h0 h1
    have := Nat.le_trans h2 h.2.1
    omega
theorem sofar_le {U v : Nat} {acc : List Int} (h : Sofar U acc v) : v ≤ U := by
  have : 1 ≤ 128 ^ acc.length := Nat.pos_of_ne_zero (by simp)
  calc v = v * 1 := by omega
    _ ≤ v * 128 ^ acc.length := Nat.mul_le_mul_left _ this
    _ ≤ U := h.2.1
theorem low7 (k : Nat) (h : (k : Int) ≤ 18446744073709551615) : bits .or .u8 (bits .and .u64 (k : Int) 127 % 256) 128 = (k : Int) % 128 + 128 := by
  have h1 : bits .and .u64 (k : Int) 127 = ((k % 128 : Nat) : Int) := by
    have := u64_and_nat k 127 (by omega) (by omega)
    rw [show ((127 : Nat) : Int) = 127 from rfl] at this
    rw [this]
    congr 1
    exact Nat.and_two_pow_sub_one_eq_mod k 7
  rw [h1]
  have h2 : ((k % 128 : Nat) : Int) % 256 = ((k % 128 : Nat) : Int) := by omega
  rw [h2]
  have h3 := u8_or_nat (k % 128) 128 (by omega) (by omega)
  rw [show ((128 : Nat) : Int) = 128 from rfl] at h3
  rw [h3, Nat.or_comm, nat_join 7 128 (k % 128) (by decide) (by omega)]
  omega
theorem take_set {C : List Value} {m : Nat} {x : Value} (h : m < C.length) : (C.set m x).take (m + 1) = C.take m ++ [x] := by
  rw [List.take_succ_eq_append_getElem (by simpa using h), List.take_set_of_le (Nat.le_refl _)]
  simp
def numB (n : Int) : ByteArray := strOfNums (digs (foldN n).toNat)

theorem own_string {w : World} {base n : Nat} {v : Value} {xs : List Int} (h : w.ownsRow base 5 1 v n (xs.map (Value.int .u8))) (hn : 0 < n) :
    ∃ g cap, v = .slice (some ⟨g, 0, none⟩) n cap ∧ (convert 93 9 (.slice (some ⟨g, 0, none⟩) n cap)).run Tryd.prog w = .ok (.string (strOfNums xs)) w := by
  have hl := h.1
  rcases h.2 with ⟨_, h0⟩ | ⟨g, cap, cur, hv, _⟩
  · omega
  · refine ⟨g, cap, hv, ?_⟩
    have hlen : xs.length = n := by simpa using hl
    refine run_convert_bytes_arg w 93 5 Tryd.underlying93 Tryd.underlying5 g 0 n cap xs hlen ?_ 9 Tryd.underlying9
    intro i hi
    have := h.cells (g := g) (by rw [hv]; rfl) i (.int .u8 (xs.getD i 0)) (by simp [List.getElem?_map, List.getD, List.getElem?_eq_getElem (show i < xs.length by omega)])
    rw [← this]
    congr 1
    unfold Addr.add; split <;> simp_all
theorem Trydlen10 : Tryd.prog.arrayLen 89 = 10 := by kernel_rfl
theorem Trydelem10 : Tryd.prog.elem 89 = 5 := by kernel_rfl
theorem Trydund10 : Tryd.prog.underlying 89 = some (.array (Tryd.prog.arrayLen 89) (Tryd.prog.elem 89)) := by kernel_rfl
theorem Trydinfo5 : (Tryd.prog.info? 5).map (fun i => (i.zero, i.size, i.bytes)) = some (some (.int .u8 0), 1, 1) := by kernel_rfl
set_option maxRecDepth 100000 in
set_option maxHeartbeats 1000000 in
theorem spec_put (n : Int) (w : World) (hn : -9223372036854775808 ≤ n ∧ n ≤ 9223372036854775807) :
    Calls Tryd.prog 59 #[.int .i64 n] w fun e w' => e = .returned (.string (numB n)) ∧ Below w.heap.size w w' := by
  obtain ⟨U, hU⟩ : ∃ U : Nat, (U : Int) = foldN n := ⟨(foldN n).toNat, by have := fold_bd hn; omega⟩
  have hbd := fold_bd hn
  have h1 := fun w => spec_fold n w hn
  have HE : Hid (numB n = strOfNums (digs U)) := (show _ = _ by unfold numB; rw [← hU]; rfl)
  rw [← hU] at h1 hbd
  clear hU
  obtain ⟨i0, hi, hz0, hz1, hz2⟩ := info_parts Trydinfo5
  go_enter Tryd.func59, Tryd.ntmps59
  go_wp2_with (first | (go_at_call 73; refine (h1 _).mono ?_; rintro e w ⟨rfl, rfl⟩))
  clear h1
  have HU : Hid (U ≤ 18446744073709551615) := hid_intro (by omega)
  clear hbd hn
  have hown0 := World.ownsRow_made (base := w.heap.size) (e := 5) (size := 1) w #[] 0 (Nat.le_refl _) (by unfold maxLen; omega) rfl
  have hbel0 : Below w.heap.size w (w.alloc (Obj.cells #[] 5)) := (Below.refl _ _).alloc (Nat.le_refl _) _
  go_loopw [3, 4] (fun x v wr => ∃ (k : Nat) (acc : List Int), x = .int .u64 k ∧ Hid (Sofar U acc k) ∧ k ≤ U ∧ wr.ownsRow w.heap.size 5 1 v acc.length (acc.map (Value.int .u8)) ∧ Below w.heap.size w wr) (fun x _ _ => (intOf x).toNat)
  case atStart => exact ⟨U, [], rfl, sofar_zero U, Nat.le_refl _, hown0, hbel0⟩
  case round =>
    obtain ⟨k, acc, rfl, HS, hkU, hown, hnx⟩ := hrel
    clear hown0 hbel0
    by_cases hk : 128 ≤ k
    · have hlen := sofar_len HS.out HU.out hk
      have hk64 : (k : Int) ≤ 18446744073709551615 := by have := HU.out; omega
      have HS2 : Hid (Sofar U (acc ++ [((k : Int) % 128 + 128)]) (k / 128)) := sofar_more HS.out hk
      clear HS
      go_wp2_with (at_builtin; refine wpList_append_own _ rfl _ _ 93 rfl w.heap.size 5 i0 (.int .u8 0) 1 1 Tryd.underlying93 hi hz0 hz1 hz2 rfl (by decide) _ _ _ rfl (hown.alloc _) ⟨wr.heap.size, 0, none⟩ 1 1 [.int .u8 ((k : Int) % 128 + 128)] rfl rfl ?c1 ?c2 ?c3 ?c4 ?c5 ?_)
      case c1 =>
        intro j u hj
        match j, hj with
        | 0, hj => simp at hj; subst hj; simp [Addr.add]
      case c2 => intro u hu; simp at hu; subst hu; rfl
      case c3 => unfold maxLen; omega
      case c4 => omega
      case c5 => have := hnx.size; simp; omega
      intro v' w1 hown' hgrow hne
      have hb1 : Below w.heap.size w w1 := (hnx.alloc hnx.size _).grown hgrow (by have := hnx.size; simp; omega) (fun g hg => (hown.lt g hg).1)
      have hown2 : w1.ownsRow w.heap.size 5 1 v' (acc ++ [((k : Int) % 128 + 128)]).length ((acc ++ [((k : Int) % 128 + 128)]).map (Value.int .u8)) := by
        simpa using hown'
      clear hown' hgrow hown hnx hne
      go_wp2
      go_roundw
      case rel => exact ⟨k / 128, _, by go_num, HS2, by omega, hown2, hb1⟩
      case measure => simp [intOf]; omega
    · have hk2 : (k : Int) < 128 := by omega
      have HD : Hid (digs U = acc ++ [(k : Int)]) := sofar_end HS.out (by omega)
      have hlen : acc.length ≤ 9 := sofar_len9 HS.out HU.out
      clear HS
      go_wp2_with (at_builtin; refine wpList_append_own _ rfl _ _ 93 rfl w.heap.size 5 i0 (.int .u8 0) 1 1 Tryd.underlying93 hi hz0 hz1 hz2 rfl (by decide) _ _ _ rfl (hown.alloc _) ⟨wr.heap.size, 0, none⟩ 1 1 [.int .u8 (k : Int)] rfl rfl ?d1 ?d2 ?d3 ?d4 ?d5 ?_)
      case d1 =>
        intro j u hj
        match j, hj with
        | 0, hj => simp at hj; subst hj; simp [Addr.add]
      case d2 => intro u hu; simp at hu; subst hu; rfl
      case d3 => unfold maxLen; omega
      case d4 => omega
      case d5 => have := hnx.size; simp; omega
      intro v' w1 hown' hgrow hne
      have hb1 : Below w.heap.size w w1 := (hnx.alloc hnx.size _).grown hgrow (by have := hnx.size; simp; omega) (fun g hg => (hown.lt g hg).1)
      have hown2 : w1.ownsRow w.heap.size 5 1 v' (acc.length + 1) ((acc ++ [(k : Int)]).map (Value.int .u8)) := by
        simpa using hown'
      obtain ⟨g, cap, hv, hconv⟩ := own_string hown2 (by omega)
      clear hown' hgrow hown hnx hne hown2
      rw [hv]
      clear hv
      go_wp2
      go_ret
      exact ⟨ret_str (by rw [HE.out, HD.out]), hb1⟩
set_option maxRecDepth 100000 in
set_option maxHeartbeats 1000000 in
theorem impl_put (n : Int) (w : World) (hn : -9223372036854775808 ≤ n ∧ n ≤ 9223372036854775807) :
    Calls Tryd.prog 35 #[.int .i64 n] w fun e w' => e = .returned (.string (numB n)) ∧ Below w.heap.size w w' := by
  obtain ⟨U, hU⟩ : ∃ U : Nat, (U : Int) = foldN n := ⟨(foldN n).toNat, by have := fold_bd hn; omega⟩
  have hbd := fold_bd hn
  have h1 := fun w => impl_fold n w hn
  have HE : Hid (numB n = strOfNums (digs U)) := (show _ = _ by unfold numB; rw [← hU]; rfl)
  rw [← hU] at h1 hbd
  clear hU
  go_enter Tryd.func35, Tryd.ntmps35
  go_wp2_with (first | (go_at_call 62; refine (h1 _).mono ?_; rintro e w ⟨rfl, rfl⟩))
  clear h1
  have HU : Hid (U ≤ 18446744073709551615) := hid_intro (by omega)
  clear hbd hn
  go_loopw [4, 5] (fun c x wr => ∃ (k : Nat) (acc : List Int) (C : List Value), c = .int .i64 (acc.length : Nat) ∧ x = .int .u64 k ∧ Hid (Sofar U acc k) ∧ k ≤ U ∧ Hid (C.take acc.length = acc.map (Value.int .u8)) ∧ C.length = 10 ∧ wr = w.alloc (.cells C.toArray 89)) (fun _ x _ => (intOf x).toNat)
  case atStart => exact ⟨U, [], List.replicate 10 (.int .u8 0), rfl, rfl, sofar_zero U, Nat.le_refl _, rfl, rfl, rfl⟩
  case round =>
    obtain ⟨k, acc, C, rfl, rfl, HS, hkU, HC, hCl, rfl⟩ := hrel
    by_cases hk : 128 ≤ k
    · have hlen := sofar_len HS.out HU.out hk
      have hk64 : (k : Int) ≤ 18446744073709551615 := by have := HU.out; omega
      have HS2 : Hid (Sofar U (acc ++ [((k : Int) % 128 + 128)]) (k / 128)) := sofar_more HS.out hk
      clear HS
      have hcell : (w.alloc (.cells C.toArray 89)).cell? ⟨w.heap.size, acc.length, none⟩ = some (C[acc.length]'(by omega)) := by
        rw [World.cell?_alloc_mark]; simp [List.getElem?_eq_getElem (show acc.length < C.length by omega)]
      have HL : Hid (bits .or .u8 (bits .and .u64 (k : Int) 127 % 256) 128 = (k : Int) % 128 + 128) := low7 k hk64
      go_wp2
      go_roundw
      case rel =>
        refine ⟨k / 128, acc ++ [((k : Int) % 128 + 128)], C.set acc.length (Value.int .u8 ((k : Int) % 128 + 128)), by simp, by go_num, HS2, by omega, ?_, by simpa using hCl, by rw [HL.out]⟩
        show List.take _ _ = _
        rw [List.length_append, List.length_singleton, take_set (by omega), HC.out]
        simp
      case measure => simp [intOf]; omega
    · have hk2 : (k : Int) < 128 := by omega
      have HD : Hid (digs U = acc ++ [(k : Int)]) := sofar_end HS.out (by omega)
      have hlen : acc.length ≤ 9 := sofar_len9 HS.out HU.out
      clear HS
      have hcell : (w.alloc (.cells C.toArray 89)).cell? ⟨w.heap.size, acc.length, none⟩ = some (C[acc.length]'(by omega)) := by
        rw [World.cell?_alloc_mark]; simp [List.getElem?_eq_getElem (show acc.length < C.length by omega)]
      have hconv : (convert 93 9 (.slice (some ⟨w.heap.size, 0, none⟩) (acc.length + 1) 10)).run Tryd.prog (w.alloc (.cells (C.set acc.length (.int .u8 (k : Int))).toArray 89)) = .ok (.string (strOfNums (acc ++ [(k : Int)]))) (w.alloc (.cells (C.set acc.length (.int .u8 (k : Int))).toArray 89)) := by
        refine run_convert_bytes_arg _ 93 5 Tryd.underlying93 Tryd.underlying5 w.heap.size 0 (acc.length + 1) 10 (acc ++ [(k : Int)]) (by simp) ?_ 9 Tryd.underlying9
        intro i hi
        rw [Nat.zero_add, World.cell?_alloc_mark]
        have h1 : (C.set acc.length (Value.int .u8 (k : Int))).take (acc.length + 1) = (acc ++ [(k : Int)]).map (Value.int .u8) := by
          rw [take_set (by omega), HC.out]; simp
        have h2 : ((C.set acc.length (Value.int .u8 (k : Int))).take (acc.length + 1))[i]? = (C.set acc.length (Value.int .u8 (k : Int)))[i]? := by
          rw [List.getElem?_take_of_lt hi]
        rw [List.getElem?_toArray, ← h2, h1, List.getElem?_map, List.getElem?_eq_getElem (show i < (acc ++ [(k : Int)]).length by simpa using hi)]
        simp [List.getD, List.getElem?_eq_getElem (show i < (acc ++ [(k : Int)]).length by simpa using hi)]
      have hsl : ∀ wx, (Instr.sliceAt 89 (.pointer (some ⟨w.heap.size, 0, none⟩)) none (some (.int .i64 ((acc.length : Int) + 1))) none).run Tryd.prog wx = .ok (.slice (some ⟨w.heap.size, 0, none⟩) (acc.length + 1) 10) wx := by
        intro wx
        have e1 : (0 : Int) ≤ (acc.length : Int) + 1 := by omega
        have e2 : (acc.length : Int) + 1 ≤ ((Tryd.prog.arrayLen 89 : Nat) : Int) := by rw [Trydlen10]; omega
        obtain ⟨i0, hi, hz0, hz1, hz2⟩ := info_parts Trydinfo5
        rw [run_sliceAt_array_h (P := Tryd.prog) wx 89 ⟨w.heap.size, 0, none⟩ Trydund10 .i64 ((acc.length : Int) + 1) e1 e2, Trydlen10, Trydelem10]
        have e3 : ((acc.length : Int) + 1).toNat = acc.length + 1 := by omega
        simp [slicedAt, sizeOf, typeInfo, hi, e3, Addr.add, Result.andThen]
      go_wp2
      go_ret
      exact ⟨ret_str (by rw [HE.out, HD.out]), (Below.refl _ _).alloc (Nat.le_refl _) _⟩
theorem digs_len : ∀ (m v : Nat), v < 128 ^ (m + 1) → (digs v).length ≤ m + 1
  | 0, v, h => by rw [digs_last (by simpa using h)]; simp
  | m + 1, v, h => by
    by_cases hv : v < 128
    · rw [digs_last hv]; simp
    · rw [digs_more (by omega)]
      have : v / 128 < 128 ^ (m + 1) := by rw [Nat.div_lt_iff_lt_mul (by omega)]; rw [Nat.pow_succ] at h; exact h
      have := digs_len m (v / 128) this
      simp; omega
theorem numB_size {n : Int} (hn : -9223372036854775808 ≤ n ∧ n ≤ 9223372036854775807) : (numB n).size ≤ 10 := by
  unfold numB
  rw [strOfNums_size]
  have := fold_bd hn
  exact digs_len 9 _ (Nat.lt_of_le_of_lt (show (foldN n).toNat ≤ 18446744073709551615 by omega) (by decide))
end NumR
end Go.Proofs.YtnpnegcmohgnfaaDoor
