/-
  Numbers as digits, as the model writes them, at every length: the library's numeral. No condition.
-/
import Derived.Test.YtpmimpenmphloaaDoorRowG
import Derived.Lib.ItoaNum
import Derived.Lib.LaidTab
import Derived.Sort.Grow
import Derived.Laws.BytesArg
namespace Go.Proofs.YtpmimpenmphloaaDoor
open Go.ChangeShapes Go.WideShapes Go.ChangeAt Go.RowKit
set_option linter.unusedVariables false
namespace Dec2
open RowG (hid_intro)
/-- The powers of ten stand in the library's variable. -/
def PowT (w : World) : Prop := Lib.TabIs Tryd.prog w "internal/strconv.uint64pow10" .u64 Lib.pow10Tab
theorem PowT.below {w w' : World} (h : PowT w) (hb : Below w.heap.size w w') : PowT w' := by
  unfold PowT Lib.TabIs World.var? at *
  cases hg : Tryd.prog.globalNamed "internal/strconv.uint64pow10" with
  | none => simp [hg] at h
  | some g =>
    simp only [hg, Option.bind_some] at h ⊢
    have hlt : g < w.heap.size := by
      rcases Nat.lt_or_ge g w.heap.size with h' | h'
      · exact h'
      · rw [Array.getElem?_eq_none h'] at h; simp at h
    rw [hb.block g hlt]
    exact h
theorem below_grow (w : World) (k : Nat) (os : Array Obj) : Below w.heap.size w (Sort.grow (w.drewN k) os) :=
  ⟨rfl, rfl, rfl, by rw [Sort.size_grow]; exact Nat.le_add_right _ _, fun j hj => Sort.heap_grow_old (w.drewN k) os hj⟩
def itoaT (n : Int) : ByteArray := ⟨(Lib.itoa n).toArray⟩
theorem dd_len : ∀ (k u : Nat), u < 10 ^ (k + 1) → (Lib.decDigits u).length ≤ k + 1
  | 0, u, h => by rw [Lib.decDigits_one (by simpa using h)]; simp
  | k + 1, u, h => by
    rw [Lib.decDigits]
    split
    · simp
    · have := dd_len k (u / 10) (by rw [Nat.pow_succ] at h; omega)
      rw [List.length_append, List.length_singleton]
      omega
theorem dd_small {u : Nat} (h : u ≤ 9223372036854775807) : (Lib.decDigits u).length ≤ 19 := dd_len 18 u (by omega)
theorem itoaT_size {n : Int} (h : -9223372036854775807 ≤ n) (h2 : n ≤ 9223372036854775807) : (itoaT n).size ≤ 20 := by
  have e : (itoaT n).size = (Lib.itoa n).length := by simp [itoaT, ByteArray.size]
  rw [e]
  unfold Lib.itoa
  split
  · have := dd_small (u := n.natAbs) (by omega); simp only [List.length_cons]; omega
  · have := dd_small (u := n.toNat) (by omega); omega
theorem conv1 (w : World) (d : Nat) (hd : d < 10) : (convert 54 9 (.slice (some ⟨w.heap.size, 0, none⟩) 1 1)).run Tryd.prog (w.alloc (Obj.cells #[.int .u8 (48 + (d : Int))] 5)) = .ok (.string ⟨#[UInt8.ofNat (48 + d)]⟩) (w.alloc (Obj.cells #[.int .u8 (48 + (d : Int))] 5)) := by
  have h := run_convert_bytes_arg (w.alloc (Obj.cells #[.int .u8 (48 + (d : Int))] 5)) 54 5 Tryd.underlying54 Tryd.underlying5 w.heap.size 0 1 1 [48 + (d : Int)] rfl (fun i hi => by
    match i, hi with
    | 0, _ => simp [go_sem]) 9 Tryd.underlying9
  rw [h]
  have e : strOfNums [48 + (d : Int)] = (⟨#[UInt8.ofNat (48 + d)]⟩ : ByteArray) := by
    apply ByteArray.ext
    have q : ((48 + (d : Int)).toNat) = 48 + d := by omega
    simp [strOfNums, q]
  rw [e]
theorem cons_app (c : UInt8) (l : List UInt8) : (⟨#[c]⟩ : ByteArray) ++ (⟨l.toArray⟩ : ByteArray) = ⟨(c :: l).toArray⟩ := by
  apply ByteArray.ext
  simp
/-- What is left, and what is written, make the number. -/
def Part (N m : Nat) (l : List UInt8) : Prop := (m = 0 ∧ l = Lib.decDigits N) ∨ (m ≠ 0 ∧ Lib.decDigits m ++ l = Lib.decDigits N)
theorem Part.next {N m : Nat} {l : List UInt8} (h : Part N m l) (h0 : m ≠ 0) : Part N (m / 10) (UInt8.ofNat (48 + m % 10) :: l) := by
  rcases h with ⟨e, _⟩ | ⟨_, e⟩
  · exact absurd e h0
  · by_cases q : m < 10
    · refine .inl ⟨by omega, ?_⟩
      rw [Lib.decDigits_one q] at e
      rw [← e, show m % 10 = m by omega]
      rfl
    · refine .inr ⟨by omega, ?_⟩
      rw [Lib.decDigits, dif_neg q] at e
      rw [← e, List.append_assoc]
      rfl
theorem Part.len {N m : Nat} {l : List UInt8} (h : Part N m l) (hN : N ≤ 9223372036854775807) : l.length ≤ 19 := by
  have hn := dd_small hN
  rcases h with ⟨_, rfl⟩ | ⟨_, e⟩
  · exact hn
  · rw [← e, List.length_append] at hn
    omega
set_option maxRecDepth 100000 in
set_option maxHeartbeats 4000000 in
theorem dec_any (N : Nat) (h0 : N ≠ 0) (h : N ≤ 9223372036854775807) (w : World) : Calls Tryd.prog 25 #[.int .i64 N] w fun e w' => e = .returned (.string ⟨(Lib.decDigits N).toArray⟩) ∧ Below w.heap.size w w' := by
  have h1 : (0 : Int) < (N : Int) := by omega
  have h2 : ¬ (N : Int) = 0 := by omega
  go_enter Tryd.func25, Tryd.ntmps25
  go_wp2_with fail
  go_loopw [0, 4] (fun x s wr => ∃ (m : Nat) (l : List UInt8), x = .int .i64 (m : Int) ∧ s = .string ⟨l.toArray⟩ ∧ m ≤ 9223372036854775807 ∧ Hid (Part N m l) ∧ Hid (Below w.heap.size w wr)) (fun x _ _ => (intOf x).toNat)
  case atStart => exact ⟨N, [], rfl, rfl, h, hid_intro (.inr ⟨h0, by simp⟩), Below.refl _ _⟩
  case round =>
    obtain ⟨m, l, rfl, rfl, hm, HD, HB⟩ := hrel
    by_cases hm0 : m = 0
    · subst hm0
      have HO : Hid ((⟨l.toArray⟩ : ByteArray) = ⟨(Lib.decDigits N).toArray⟩) := hid_intro (by
        rcases HD.out with ⟨_, e⟩ | ⟨e, _⟩
        · rw [e]
        · exact absurd rfl e)
      clear HD
      generalize (⟨l.toArray⟩ : ByteArray) = T at *
      go_wp2_with fail
      go_ret
      exact ⟨ret_str HO.out, HB.out⟩
    · have HD2 := hid_intro (HD.out.next hm0)
      have hmi : ¬ (m : Int) = 0 := by omega
      have hmi2 : (0 : Int) < (m : Int) := by omega
      have e1 : (m : Int) % 10 = ((m % 10 : Nat) : Int) := by omega
      have e2 : (m : Int) / 10 = ((m / 10 : Nat) : Int) := by omega
      have hl : l.length ≤ 19 := HD.out.len h
      obtain ⟨d, hd⟩ : ∃ d, d = m % 10 := ⟨_, rfl⟩
      obtain ⟨q, hq⟩ : ∃ q, q = m / 10 := ⟨_, rfl⟩
      rw [← hd] at e1 HD2
      rw [← hq] at e2 HD2
      have hd10 : d < 10 := by omega
      have hdi : ¬ (d : Int) < 0 := by omega
      have hcv := conv1 wr d hd10
      have HC := hid_intro (cons_app (UInt8.ofNat (48 + d)) l)
      have hz1 : (⟨#[UInt8.ofNat (48 + d)]⟩ : ByteArray).size = 1 := rfl
      have hz2 : (⟨l.toArray⟩ : ByteArray).size ≤ 19 := by simpa [ByteArray.size] using hl
      have HQ := hid_intro hq
      have hqm : q ≤ 9223372036854775807 := by omega
      have HT : Hid (∀ T : ByteArray, T = (⟨#[UInt8.ofNat (48 + d)]⟩ : ByteArray) → True) := fun _ _ => trivial
      clear hd hq HD hl
      generalize UInt8.ofNat (48 + d) = c at *
      go_wp2_with fail
      go_roundw
      case rel => exact ⟨q, c :: l, rfl, by rw [HC.out], hqm, HD2, hid_intro (HB.out.alloc HB.out.size _)⟩
      case measure => simp [intOf]; have := HQ.out; omega
theorem dec_zero (w : World) : Calls Tryd.prog 25 #[.int .i64 0] w fun e w' => e = .returned (.string ⟨(Lib.decDigits 0).toArray⟩) ∧ Below w.heap.size w w' := by
  rw [Lib.decDigits_one (i := 0) (by omega)]
  go_enter Tryd.func25, Tryd.ntmps25
  go_wp2
  go_ret
  exact ⟨rfl, Below.refl _ _⟩
theorem dec_itoa (n : Int) (h0 : 0 ≤ n) (h : n ≤ 9223372036854775807) (w : World) : Calls Tryd.prog 25 #[.int .i64 n] w fun e w' => e = .returned (.string (itoaT n)) ∧ Below w.heap.size w w' := by
  obtain ⟨N, rfl⟩ : ∃ N : Nat, n = N := ⟨n.toNat, by omega⟩
  have e : itoaT (N : Int) = ⟨(Lib.decDigits N).toArray⟩ := by unfold itoaT Lib.itoa; rw [if_neg (by omega)]; rfl
  rw [e]
  by_cases q : N = 0
  · subst q; exact dec_zero w
  · exact dec_any N q (by omega) w
theorem sdec_itoa (n : Int) (h0 : -9223372036854775807 ≤ n) (h : n ≤ 9223372036854775807) (w : World) : Calls Tryd.prog 26 #[.int .i64 n] w fun e w' => e = .returned (.string (itoaT n)) ∧ Below w.heap.size w w' := by
  by_cases q : n < 0
  · have e : itoaT n = (⟨#[45]⟩ : ByteArray) ++ itoaT (-n) := by
      unfold itoaT Lib.itoa
      rw [if_pos q, if_neg (by omega), show (-n).toNat = n.natAbs by omega]
      apply ByteArray.ext
      simp
    rw [e]
    have HD := hid_intro (fun w => dec_itoa (-n) (by omega) (by omega) w)
    have hz := itoaT_size (n := -n) (by omega) (by omega)
    have hz1 : (⟨#[45]⟩ : ByteArray).size = 1 := rfl
    clear e
    generalize itoaT (-n) = T at *
    go_enter Tryd.func26, Tryd.ntmps26
    go_wp2_with fail
    refine (HD.out _).mono ?_
    rintro e w1 ⟨rfl, hb⟩
    go_wp2_with fail
    go_ret
    exact ⟨rfl, hb⟩
  · have HD := hid_intro (fun w => dec_itoa n (by omega) h w)
    generalize itoaT n = T at *
    go_enter Tryd.func26, Tryd.ntmps26
    go_wp2_with fail
    refine (HD.out _).mono ?_
    rintro e w1 ⟨rfl, hb⟩
    go_wp2_with fail
    go_ret
    exact ⟨rfl, hb⟩
/-- What the library's FormatInt hands back at base 10. -/
def FmtOk : Prop := ∀ (n : Int), -9223372036854775807 ≤ n → n ≤ 9223372036854775807 → ∀ w, PowT w → Calls Tryd.prog 15 #[.int .i64 n, .int .i64 10] w fun e w' => e = .returned (.string (itoaT n)) ∧ Below w.heap.size w w'
end Dec2
end Go.Proofs.YtpmimpenmphloaaDoor
