/-
  The order of texts, what a right catalog is, and a map of meters by their names, as read. No condition.
  PutNum: what the model and the program hand back is one text, the digits of the folded number. No condition but that the number is of int64.
  joinTexts: called with a list of texts (at least one) it hands back the texts one behind the other, in new memory; nothing that was there is written. The condition: they have together at most 2^40 bytes, and the list at most 1000 texts.
  A text's bytes: both sides put the same. No condition but the length.
  The program's map of meters by their names: made, and taken from. The condition: at most 6 meters, their names of at most 1048576 bytes; the program's own error stands in its variable.
  What the program and the model call a right meter: they are one. The conditions: the name has at most 1048576 bytes, the tiers are at most 1048576.
  errors.Is at the program's own sentinel: of the sentinel it tells true, of nil false. No condition.
  What the program calls right meters. The conditions: at most 1048576 of them, each small; the program's own error stands in its variable.
  What the program calls right credits. The condition: at most 1048576 of them, each account of at most 1048576 bytes.
  What the program calls a right catalog. The conditions: all in it is small; the program's own error stands in its variable.
  A region that draws its order, in a class of worlds that all hold some facts: one walk of the order of the text serves. No condition.
  What the model calls a right catalog. The condition: all in it is small.
  The credit of an account, either side. The conditions: all in the catalog is small; the program's own error stands in its variable.
  The bytes of a meter and of a catalog, as parts that are joined. No condition.
  The bytes of a right meter, the program's side. The condition: the meter is right.
  The bytes of a catalog, the program's side. The conditions: all in it is small; the program's own error stands in its variable.
  The bytes of a catalog, the model's side. The conditions: all in it is small; for l05Bytes: the catalog is right.
  Lists of texts of one's own that grow by append, and texts that are joined. No condition.
  A scope in which the run jumps to several labels: what holds at each label's jumps ('J'), and a measure that every pass from a label lowers. No condition. (The library's law is for one label.)
  What is read of a text at a place as a number: the plain function ('rd': its code, the folded number, how many bytes), and its steps. No condition.
  The program's reading of a number at a place ('readNum', by goto): what it hands back is 'rd'. The condition: the text has at most 8000 bytes.
-/
import Derived.Maps.OwnSet
import Derived.Laws.BytesArg
import Derived.Laws.CopyOwn
import Derived.Lib.BufferRead
import Derived.OwnWalk
import Derived.Carry
import Derived.Deep.RegionHeld3
import Derived.LaidEql
import Derived.Stop.Asserts
import Derived.RowKitTokens
import Derived.BigQuiet
import Derived.Deep.QuietTactic
import Derived.WalkMore
import Derived.ScopeJumps
import Derived.Test.YtaedolophhcjjaaDoorK2
namespace Go.Proofs.YtaedolophhcjjaaDoor
open Go.RowKit
set_option linter.unusedVariables false
namespace CatR
open Op (bytesLess)
theorem bl_irrefl : ∀ x : List UInt8, bytesLess x x = false
  | [] => rfl
  | a :: x => by
    rw [bytesLess, bl_irrefl x]
    simp
theorem bl_trans : ∀ {x y z : List UInt8}, bytesLess x y = true → bytesLess y z = true → bytesLess x z = true
  | _, [], _, h, _ => by simp [bytesLess] at h
  | _, _ :: _, [], _, h => by simp [bytesLess] at h
  | [], _ :: _, _ :: _, _, _ => rfl
  | a :: x, b :: y, c :: z, h1, h2 => by
    rw [bytesLess] at *
    simp only [Bool.or_eq_true, Bool.and_eq_true, decide_eq_true_eq, beq_iff_eq] at *
    rcases h1 with h1 | ⟨rfl, h1⟩
    · rcases h2 with h2 | ⟨rfl, h2⟩
      · exact .inl (UInt8.lt_trans h1 h2)
      · exact .inl h1
    · rcases h2 with h2 | ⟨rfl, h2⟩
      · exact .inl h2
      · exact .inr ⟨rfl, bl_trans h1 h2⟩
theorem bl_total : ∀ {x y : List UInt8}, bytesLess x y = false → bytesLess y x = false → x = y
  | [], [], _, _ => rfl
  | [], _ :: _, h, _ => by simp [bytesLess] at h
  | _ :: _, [], _, h => by simp [bytesLess] at h
  | a :: x, b :: y, h1, h2 => by
    rw [bytesLess] at *
    simp only [Bool.or_eq_false_iff, Bool.and_eq_false_iff, decide_eq_false_iff_not, beq_eq_false_iff_ne] at *
    have e : a = b := by
      have p1 := h1.1
      have p2 := h2.1
      rw [UInt8.lt_iff_toNat_lt] at p1 p2
      exact UInt8.toNat.inj (by omega)
    subst e
    rw [bl_total (h1.2.resolve_left (fun h => h rfl)) (h2.2.resolve_left (fun h => h rfl))]
/-- One text is ahead of another. -/
def lt (a b : ByteArray) : Bool := bytesLess a.toList b.toList
theorem toList_inj {a b : ByteArray} (h : a.toList = b.toList) : a = b := by
  rw [ByteArray.toList_eq, ByteArray.toList_eq] at h
  exact ByteArray.ext (Array.ext' h)
theorem lt_irrefl (a : ByteArray) : lt a a = false := bl_irrefl _
theorem lt_trans {a b c : ByteArray} (h1 : lt a b = true) (h2 : lt b c = true) : lt a c = true := bl_trans h1 h2
theorem lt_total {a b : ByteArray} (h1 : lt a b = false) (h2 : lt b a = false) : a = b := toList_inj (bl_total h1 h2)
theorem lt_asymm {a b : ByteArray} (h : lt a b = true) : lt b a = false := by
  cases h2 : lt b a
  · rfl
  · have := lt_trans h h2
    rw [lt_irrefl] at this
    cases this
theorem lt_empty {b : ByteArray} (h : 1 ≤ b.size) : lt ⟨#[]⟩ b = true := by
  unfold lt
  have h1 : (⟨#[]⟩ : ByteArray).toList = [] := by rw [ByteArray.toList_eq]
  rw [h1]
  cases hb : b.toList with
  | nil =>
    rw [ByteArray.toList_eq] at hb
    have : b.data.toList.length = 0 := by rw [hb]; rfl
    have h2 : b.data.toList.length = b.size := rfl
    omega
  | cons x l => rfl
def mN (ms : List Me) (i : Nat) : ByteArray := (ms.getD i Me.zero).n
def cA (cs : List Cr) (i : Nat) : ByteArray := (cs.getD i Cr.zero).a
def cM (cs : List Cr) (i : Nat) : Int := (cs.getD i Cr.zero).m
/-- So many meters are right and rise by name; so many credits by account. -/
def MOk (ms : List Me) (k : Nat) : Prop := ∀ i, i < k → MRight (ms.getD i Me.zero) ∧ (0 < i → lt (mN ms (i - 1)) (mN ms i) = true)
def COk (cs : List Cr) (k : Nat) : Prop := ∀ i, i < k → (NameR.nameB (cA cs i) = true ∧ 0 ≤ cM cs i ∧ cM cs i ≤ 1000000000000) ∧ (0 < i → lt (cA cs (i - 1)) (cA cs i) = true)
def MsRight (ms : List Me) : Prop := ms.length ≤ 6 ∧ MOk ms ms.length
def CsRight (cs : List Cr) : Prop := cs.length ≤ 6 ∧ COk cs cs.length
theorem MOk.rise {ms : List Me} {k : Nat} (h : MOk ms k) : ∀ j, j < k → ∀ i, i < j → lt (mN ms i) (mN ms j) = true
  | 0, _, i, hi => absurd hi (by omega)
  | j + 1, hj, i, hi => by
    have h1 : lt (mN ms j) (mN ms (j + 1)) = true := (h (j + 1) hj).2 (by omega)
    by_cases e : i = j
    · subst e; exact h1
    · exact lt_trans (MOk.rise h j (by omega) i (by omega)) h1
theorem MOk.apart {ms : List Me} {k : Nat} (h : MOk ms k) {i j : Nat} (hi : i < k) (hj : j < k) (e : mN ms i = mN ms j) : i = j := by
  rcases Nat.lt_trichotomy i j with h1 | h1 | h1
  · have := h.rise j hj i h1
    rw [e, lt_irrefl] at this
    cases this
  · exact h1
  · have := h.rise i hi j h1
    rw [e, lt_irrefl] at this
    cases this
theorem MOk.zero (ms : List Me) : MOk ms 0 := fun i h => absurd h (by omega)
theorem COk.zero (cs : List Cr) : COk cs 0 := fun i h => absurd h (by omega)
theorem MOk.more {ms : List Me} {k : Nat} (h : MOk ms k) (h1 : MRight (ms.getD k Me.zero)) (h2 : 0 < k → lt (mN ms (k - 1)) (mN ms k) = true) : MOk ms (k + 1) := by
  intro i hi
  by_cases e : i = k
  · subst e; exact ⟨h1, h2⟩
  · exact h i (by omega)
theorem COk.more {cs : List Cr} {k : Nat} (h : COk cs k) (h1 : NameR.nameB (cA cs k) = true) (h3 : 0 ≤ cM cs k ∧ cM cs k ≤ 1000000000000) (h2 : 0 < k → lt (cA cs (k - 1)) (cA cs k) = true) : COk cs (k + 1) := by
  intro i hi
  by_cases e : i = k
  · subst e; exact ⟨⟨h1, h3⟩, h2⟩
  · exact h i (by omega)
def MOkDec (ms : List Me) (k : Nat) : Decidable (MOk ms k) :=
  haveI := MRightDec
  inferInstanceAs (Decidable (∀ i, i < k → MRight (ms.getD i Me.zero) ∧ (0 < i → lt (mN ms (i - 1)) (mN ms i) = true)))
def COkDec (cs : List Cr) (k : Nat) : Decidable (COk cs k) := inferInstanceAs (Decidable (∀ i, i < k → (NameR.nameB (cA cs i) = true ∧ 0 ≤ cM cs i ∧ cM cs i ≤ 1000000000000) ∧ (0 < i → lt (cA cs (i - 1)) (cA cs i) = true)))
def MsRightDec (ms : List Me) : Decidable (MsRight ms) :=
  haveI := MOkDec ms ms.length
  inferInstanceAs (Decidable (ms.length ≤ 6 ∧ MOk ms ms.length))
def CsRightDec (cs : List Cr) : Decidable (CsRight cs) :=
  haveI := COkDec cs cs.length
  inferInstanceAs (Decidable (cs.length ≤ 6 ∧ COk cs cs.length))
def msB (ms : List Me) : Bool := @decide (MsRight ms) (MsRightDec ms)
def csB (cs : List Cr) : Bool := @decide (CsRight cs) (CsRightDec cs)
def caB (c : Ca) : Bool := msB c.ms && csB c.cs
theorem msB_no {ms : List Me} (h : ¬ MsRight ms) : msB ms = false := by unfold msB; exact @decide_eq_false _ (MsRightDec ms) h
theorem msB_yes {ms : List Me} (h : MsRight ms) : msB ms = true := by unfold msB; exact @decide_eq_true _ (MsRightDec ms) h
theorem msB_iff {ms : List Me} : msB ms = true ↔ MsRight ms := by unfold msB; exact @decide_eq_true_iff _ (MsRightDec ms)
theorem csB_no {cs : List Cr} (h : ¬ CsRight cs) : csB cs = false := by unfold csB; exact @decide_eq_false _ (CsRightDec cs) h
theorem csB_yes {cs : List Cr} (h : CsRight cs) : csB cs = true := by unfold csB; exact @decide_eq_true _ (CsRightDec cs) h
theorem csB_iff {cs : List Cr} : csB cs = true ↔ CsRight cs := by unfold csB; exact @decide_eq_true_iff _ (CsRightDec cs)
theorem mB_iff {m : Me} : mB m = true ↔ MRight m := by unfold mB; exact @decide_eq_true_iff _ (MRightDec m)
/-- How an element of the map is read: as itself. -/
def RV (v : Value) : Option (DataW Value × List MemPlace) := some (.held v, [])
/-- A name as a key. -/
def kS (n : ByteArray) : Lit := .string n.data.toList
theorem kS_inj {a b : ByteArray} (h : kS a = kS b) : a = b := by
  unfold kS at h
  simp only [Lit.string.injEq] at h
  exact ByteArray.ext (Array.ext' h)
theorem kS_key (n : ByteArray) : WideAt.IsKeyLit (kS n) := by
  unfold kS
  first | trivial | exact rfl | (simp [WideAt.IsKeyLit])
/-- The map of so many meters. -/
def mapD (ms : List Me) (V : Nat → Value) : Nat → DataW Value
  | 0 => .map []
  | k + 1 => (mapD ms V k).put (kS (mN ms k)) (.held (V k))
theorem mapD_is (ms : List Me) (V : Nat → Value) : ∀ k, Maps.IsMap (mapD ms V k)
  | 0 => Maps.isMap_empty
  | k + 1 => (mapD_is ms V k).put _ _
theorem has_mapD (ms : List Me) (V : Nat → Value) (n : ByteArray) : ∀ k, Maps.has (mapD ms V k) (kS n) = true ↔ ∃ i, i < k ∧ mN ms i = n
  | 0 => by
    refine ⟨fun h => ?_, fun ⟨i, hi, _⟩ => absurd hi (by omega)⟩
    rw [mapD, Maps.has_eq] at h
    simp at h
  | k + 1 => by
    rw [mapD]
    by_cases e : n = mN ms k
    · subst e
      rw [Maps.has_put_same (mapD_is ms V k) (kS_key _)]
      exact ⟨fun _ => ⟨k, by omega, rfl⟩, fun _ => rfl⟩
    · rw [Maps.has_put_other (fun h => e (kS_inj h)), has_mapD ms V n k]
      constructor
      · rintro ⟨i, hi, h⟩; exact ⟨i, by omega, h⟩
      · rintro ⟨i, hi, h⟩
        refine ⟨i, ?_, h⟩
        rcases Nat.lt_or_ge i k with h1 | h1
        · exact h1
        · obtain rfl : i = k := by omega
          exact absurd h.symm e
theorem at_mapD (ms : List Me) (V : Nat → Value) (z : DataW Value) : ∀ k, (∀ i j, i < k → j < k → mN ms i = mN ms j → i = j) → ∀ i, i < k → (mapD ms V k).atKey (kS (mN ms i)) z = .held (V i)
  | 0, _, i, hi => absurd hi (by omega)
  | k + 1, hd, i, hi => by
    rw [mapD]
    by_cases e : i = k
    · subst e
      exact Maps.atKey_put_same (mapD_is ms V i) (kS_key _) _ _
    · rw [Maps.atKey_put_other (fun h => e (hd i k hi (by omega) (kS_inj h)))]
      exact at_mapD ms V z k (fun i j hi hj => hd i j (by omega) (by omega)) i (by omega)
theorem at_mapD_some (ms : List Me) (V : Nat → Value) (n : ByteArray) : ∀ k, (∃ i, i < k ∧ mN ms i = n) → ∃ j, j < k ∧ ∀ z, (mapD ms V k).atKey (kS n) z = .held (V j)
  | 0, ⟨i, hi, _⟩ => absurd hi (by omega)
  | k + 1, h => by
    by_cases e : n = mN ms k
    · subst e
      exact ⟨k, by omega, fun z => by rw [mapD]; exact Maps.atKey_put_same (mapD_is ms V k) (kS_key _) _ _⟩
    · obtain ⟨i, hi, he⟩ := h
      obtain ⟨j, hj, h2⟩ := at_mapD_some ms V n k ⟨i, by
        rcases Nat.lt_or_ge i k with h1 | h1
        · exact h1
        · obtain rfl : i = k := by omega
          exact absurd he.symm e, he⟩
      exact ⟨j, by omega, fun z => by rw [mapD, Maps.atKey_put_other (fun h => e (kS_inj h))]; exact h2 z⟩
/-- .. with so many taken out again. -/
def delD (ms : List Me) (D : DataW Value) : Nat → DataW Value
  | 0 => D
  | k + 1 => (delD ms D k).del (kS (mN ms k))
theorem has_delD (ms : List Me) (D : DataW Value) (n : ByteArray) : ∀ k, Maps.has (delD ms D k) (kS n) = true ↔ (Maps.has D (kS n) = true ∧ ∀ i, i < k → mN ms i ≠ n)
  | 0 => ⟨fun h => ⟨h, fun i hi => absurd hi (by omega)⟩, fun h => h.1⟩
  | k + 1 => by
    rw [delD]
    by_cases e : n = mN ms k
    · subst e
      rw [Maps.has_del_same]
      exact ⟨fun h => (by cases h), fun h => absurd rfl (h.2 k (by omega))⟩
    · rw [Maps.has_del_other (fun h => e (kS_inj h)), has_delD ms D n k]
      constructor
      · rintro ⟨h1, h2⟩
        refine ⟨h1, fun i hi h => ?_⟩
        rcases Nat.lt_or_ge i k with h3 | h3
        · exact h2 i h3 h
        · obtain rfl : i = k := by omega
          exact e h.symm
      · rintro ⟨h1, h2⟩; exact ⟨h1, fun i hi => h2 i (by omega)⟩
theorem at_delD (ms : List Me) (D : DataW Value) (n : ByteArray) (z : DataW Value) : ∀ k, (∀ i, i < k → mN ms i ≠ n) → (delD ms D k).atKey (kS n) z = D.atKey (kS n) z
  | 0, _ => rfl
  | k + 1, h => by
    rw [delD, Maps.atKey_del_other (fun e => h k (by omega) (kS_inj e).symm)]
    exact at_delD ms D n z k (fun i hi => h i (by omega))
theorem ms_alike {ms : List Me} {k i : Nat} (hk : k < ms.length) (hi : i < k) (e : mN ms i = mN ms k) : msB ms = false := msB_no (fun h => by
  have := h.2.apart (by omega) hk e
  omega)
theorem ms_falls {ms : List Me} {k : Nat} (hk : k < ms.length) (h0 : 0 < k) (h : lt (mN ms k) (mN ms (k - 1)) = true) : msB ms = false := msB_no (fun hr => by
  have := lt_asymm ((hr.2 k hk).2 h0)
  rw [h] at this
  cases this)
theorem ms_flat {ms : List Me} {k : Nat} (hk : k < ms.length) (h0 : 0 < k) (h : lt (mN ms (k - 1)) (mN ms k) = false) : msB ms = false := msB_no (fun hr => by
  have := (hr.2 k hk).2 h0
  rw [h] at this
  cases this)
theorem ms_wrong {ms : List Me} {k : Nat} (hk : k < ms.length) (h : mB (ms.getD k Me.zero) = false) : msB ms = false := msB_no (fun hr => by
  have := mB_iff.2 (hr.2 k hk).1
  rw [h] at this
  cases this)
theorem ms_end {ms : List Me} (h6 : ms.length ≤ 6) (h : MOk ms ms.length) : msB ms = true := msB_yes ⟨h6, h⟩
theorem ms_many {ms : List Me} (h6 : 6 < ms.length) : msB ms = false := msB_no (fun hr => by have := hr.1; omega)
theorem cs_many {cs : List Cr} (h6 : 6 < cs.length) : csB cs = false := csB_no (fun hr => by have := hr.1; omega)
theorem cs_end {cs : List Cr} (h6 : cs.length ≤ 6) (h : COk cs cs.length) : csB cs = true := csB_yes ⟨h6, h⟩
theorem cs_name {cs : List Cr} {k : Nat} (hk : k < cs.length) (h : NameR.nameB (cA cs k) = false) : csB cs = false := csB_no (fun hr => by
  have := (hr.2 k hk).1.1
  rw [h] at this
  cases this)
theorem cs_micro {cs : List Cr} {k : Nat} (hk : k < cs.length) (h : ¬ (0 ≤ cM cs k ∧ cM cs k ≤ 1000000000000)) : csB cs = false := csB_no (fun hr => h (hr.2 k hk).1.2)
theorem cs_flat {cs : List Cr} {k : Nat} (hk : k < cs.length) (h0 : 0 < k) (h : lt (cA cs (k - 1)) (cA cs k) = false) : csB cs = false := csB_no (fun hr => by
  have := (hr.2 k hk).2 h0
  rw [h] at this
  cases this)
end CatR
end Go.Proofs.YtaedolophhcjjaaDoor
namespace Go.Proofs.YtaedolophhcjjaaDoor
open Go.ChangeShapes Go.WideShapes Go.ChangeAt Go.RowKit
open Go.ChangeMaps (open_string shut_string)
set_option linter.unusedVariables false
namespace NumR
theorem hid_intro {p : Prop} (h : p) : Hid p := h
def foldN (n : Int) : Int := if n < 0 then 2 * -(n + 1) + 1 else 2 * n
theorem fold_bd {n : Int} (hn : -9223372036854775808 ≤ n ∧ n ≤ 9223372036854775807) : 0 ≤ foldN n ∧ foldN n ≤ 18446744073709551615 := by
  unfold foldN; split <;> omega
theorem fold_neg {n : Int} (h : n < 0) : foldN n = 2 * -(n + 1) + 1 := if_pos h
theorem fold_pos {n : Int} (h : 0 ≤ n) : foldN n = 2 * n := if_neg (by omega)
theorem u64wrap (n : Int) : IntKind.u64.wrap n = n % 18446744073709551616 := by simp [IntKind.wrap, IntKind.bits, IntKind.signed]
theorem xor_ones (x : Int) (h0 : 0 ≤ x) (h1 : x ≤ 18446744073709551615) : bits .xor .u64 IntKind.u64.max x = 18446744073709551615 - x := by
  have hm : BitVec.ofInt 64 IntKind.u64.max = BitVec.allOnes 64 := by decide
  have hx : (BitVec.ofInt 64 x).toNat = x.toNat := by
    rw [BitVec.toNat_ofInt]; congr 1; exact Int.emod_eq_of_lt h0 (by omega)
  show IntKind.u64.wrap ((BitVec.ofInt 64 IntKind.u64.max ^^^ BitVec.ofInt 64 x).toNat : Int) = _
  rw [hm, BitVec.allOnes_xor, BitVec.toNat_not, hx, u64wrap]
  omega
theorem fold_bits {n : Int} (h : n < 0) (hn : -9223372036854775808 ≤ n) : bits .xor .u64 IntKind.u64.max (IntKind.u64.wrap (IntKind.u64.wrap n * 2)) = foldN n := by
  have e : IntKind.u64.wrap (IntKind.u64.wrap n * 2) = 2 * n + 18446744073709551616 := by rw [u64wrap, u64wrap]; omega
  rw [e, xor_ones _ (by omega) (by omega), fold_neg h]; omega
theorem spec_fold (n : Int) (w : World) (hn : -9223372036854775808 ≤ n ∧ n ≤ 9223372036854775807) :
    Calls Tryd.prog 75 #[.int .i64 n] w fun e w' => e = .returned (.int .u64 (foldN n)) ∧ w' = w := by
  by_cases h : n < 0
  · rw [fold_neg h]
    go_enter Tryd.func75, Tryd.ntmps75
    go_wp2
    go_ret
    exact ⟨rfl, rfl⟩
  · rw [fold_pos (by omega)]
    go_enter Tryd.func75, Tryd.ntmps75
    go_wp2
    go_ret
    exact ⟨rfl, rfl⟩
theorem impl_fold (n : Int) (w : World) (hn : -9223372036854775808 ≤ n ∧ n ≤ 9223372036854775807) :
    Calls Tryd.prog 56 #[.int .i64 n] w fun e w' => e = .returned (.int .u64 (foldN n)) ∧ w' = w := by
  by_cases h : n < 0
  · have hf := fold_bits h hn.1
    have HF : Hid (bits .xor .u64 IntKind.u64.max (IntKind.u64.wrap (IntKind.u64.wrap n * 2)) = foldN n) := hf
    clear hf
    go_enter Tryd.func56, Tryd.ntmps56
    go_wp2
    go_ret
    exact ⟨ret_int HF.out, rfl⟩
  · have HF : Hid (n * 2 = foldN n) := (show _ = _ by rw [fold_pos (by omega)]; omega)
    go_enter Tryd.func56, Tryd.ntmps56
    go_wp2
    go_ret
    exact ⟨ret_int HF.out, rfl⟩

/-- A number's digits of seven bits, the lowest first, 128 more in all but the last. -/
def digs (v : Nat) : List Int := if v < 128 then [(v : Int)] else ((v : Int) % 128 + 128) :: digs (v / 128)
  termination_by v
  decreasing_by omega
theorem digs_last {v : Nat} (h : v < 128) : digs v = [(v : Int)] := by rw [digs, if_pos h]
theorem digs_more {v : Nat} (h : 128 ≤ v) : digs v = ((v : Int) % 128 + 128) :: digs (v / 128) := by rw [digs, if_neg (by omega)]
/-- What stands of the digits behind some rounds. -/
def Sofar (U : Nat) (acc : List Int) (v : Nat) : Prop := digs U = acc ++ digs v ∧ v * 128 ^ acc.length ≤ U ∧ (acc = [] ∨ 1 ≤ v)
theorem sofar_zero (U : Nat) : Sofar U [] U := ⟨rfl, by simp, .inl rfl⟩
theorem sofar_more {U v : Nat} {acc : List Int} (h : Sofar U acc v) (hv : 128 ≤ v) : Sofar U (acc ++ [((v : Int) % 128 + 128)]) (v / 128) := by
  refine ⟨by rw [h.1, digs_more hv]; simp, ?_, .inr (by omega)⟩
  have h2 := h.2.1
  have : v / 128 * 128 ≤ v := Nat.div_mul_le_self v 128
  simp only [List.length_append, List.length_cons, List.length_nil, Nat.zero_add, Nat.pow_succ]
  calc v / 128 * (128 ^ acc.length * 128) = (v / 128 * 128) * 128 ^ acc.length := by rw [Nat.mul_comm (128 ^ acc.length) 128, Nat.mul_assoc]
    _ ≤ v * 128 ^ acc.length := Nat.mul_le_mul_right _ this
    _ ≤ U := h2
theorem sofar_end {U v : Nat} {acc : List Int} (h : Sofar U acc v) (hv : v < 128) : digs U = acc ++ [(v : Int)] := by rw [h.1, digs_last hv]
theorem pow_le_pow {a b : Nat} (h : a ≤ b) : 128 ^ a ≤ 128 ^ b := Nat.pow_le_pow_right (by omega) h
theorem sofar_len {U v : Nat} {acc : List Int} (h : Sofar U acc v) (hU : U ≤ 18446744073709551615) (hv : 128 ≤ v) : acc.length ≤ 8 := by
  refine Nat.le_of_not_lt fun hlt => ?_
  have h1 := pow_le_pow (show 9 ≤ acc.length by omega)
  have h2 : 128 * 128 ^ 9 ≤ v * 128 ^ acc.length := Nat.mul_le_mul hv h1
  have := Nat.le_trans h2 h.2.1
  omega
theorem sofar_len9 {U v : Nat} {acc : List Int} (h : Sofar U acc v) (hU : U ≤ 18446744073709551615) : acc.length ≤ 9 := by
  refine Nat.le_of_not_lt fun hlt => ?_
  rcases h.2.2 with h0 | h0
  · rw [h0] at hlt; simp at hlt
  · have h1 := pow_le_pow (show 10 ≤ acc.length by omega)
    have h2 : 1 * 128 ^ 10 ≤ v * 128 ^ acc.length := Nat.mul_le_mul h0 h1
    have := Nat.le_trans h2 h.2.1
    omega
theorem sofar_le {U v : Nat} {acc : List Int} (h : Sofar U acc v) : v ≤ U := by
  have : 1 ≤ 128 ^ acc.length := Nat.pos_of_ne_zero (by simp)
  calc v = v * 1 := by omega
    _ ≤ v * 128 ^ acc.length := Nat.mul_le_mul_left _ this
    _ ≤ U := h.2.1
theorem low7 (k : Nat) (h : (k : Int) ≤ 18446744073709551615) : bits .or .u8 (bits .and .u64 (k : Int) 127 % 256) 128 = (k : Int) % 128 + 128 := by
  have h1 : bits .and .u64 (k : Int) 127 = ((k % 128 : Nat) : Int) := by
    have := u64_and_nat k 127 (by omega) (by omega)
    rw [show ((127 : Nat) : Int) = 127 from rfl] at this
    rw [this]
    congr 1
    exact Nat.and_two_pow_sub_one_eq_mod k 7
  rw [h1]
  have h2 : ((k % 128 : Nat) : Int) % 256 = ((k % 128 : Nat) : Int) := by omega
  rw [h2]
  have h3 := u8_or_nat (k % 128) 128 (by omega) (by omega)
  rw [show ((128 : Nat) : Int) = 128 from rfl] at h3
  rw [h3, Nat.or_comm, nat_join 7 128 (k % 128) (by decide) (by omega)]
  omega
theorem take_set {C : List Value} {m : Nat} {x : Value} (h : m < C.length) : (C.set m x).take (m + 1) = C.take m ++ [x] := by
  rw [List.take_succ_eq_append_getElem (by simpa using h), List.take_set_of_le (Nat.le_refl _)]
  simp
def numB (n : Int) : ByteArray := strOfNums (digs (foldN n).toNat)

theorem own_string {w : World} {base n : Nat} {v : Value} {xs : List Int} (h : w.ownsRow base 5 1 v n (xs.map (Value.int .u8))) (hn : 0 < n) :
    ∃ g cap, v = .slice (some ⟨g, 0, none⟩) n cap ∧ (convert 22 9 (.slice (some ⟨g, 0, none⟩) n cap)).run Tryd.prog w = .ok (.string (strOfNums xs)) w := by
  have hl := h.1
  rcases h.2 with ⟨_, h0⟩ | ⟨g, cap, cur, hv, _⟩
  · omega
  · refine ⟨g, cap, hv, ?_⟩
    have hlen : xs.length = n := by simpa using hl
    refine run_convert_bytes_arg w 22 5 Tryd.underlying22 Tryd.underlying5 g 0 n cap xs hlen ?_ 9 Tryd.underlying9
    intro i hi
    have := h.cells (g := g) (by rw [hv]; rfl) i (.int .u8 (xs.getD i 0)) (by simp [List.getElem?_map, List.getD, List.getElem?_eq_getElem (show i < xs.length by omega)])
    rw [← this]
    congr 1
    unfold Addr.add; split <;> simp_all
theorem Trydlen10 : Tryd.prog.arrayLen 89 = 10 := by kernel_rfl
theorem Trydelem10 : Tryd.prog.elem 89 = 5 := by kernel_rfl
theorem Trydund10 : Tryd.prog.underlying 89 = some (.array (Tryd.prog.arrayLen 89) (Tryd.prog.elem 89)) := by kernel_rfl
theorem Trydinfo5 : (Tryd.prog.info? 5).map (fun i => (i.zero, i.size, i.bytes)) = some (some (.int .u8 0), 1, 1) := by kernel_rfl
set_option maxRecDepth 100000 in
set_option maxHeartbeats 1000000 in
theorem spec_put (n : Int) (w : World) (hn : -9223372036854775808 ≤ n ∧ n ≤ 9223372036854775807) :
    Calls Tryd.prog 63 #[.int .i64 n] w fun e w' => e = .returned (.string (numB n)) ∧ Below w.heap.size w w' := by
  obtain ⟨U, hU⟩ : ∃ U : Nat, (U : Int) = foldN n := ⟨(foldN n).toNat, by have := fold_bd hn; omega⟩
  have hbd := fold_bd hn
  have h1 := fun w => spec_fold n w hn
  have HE : Hid (numB n = strOfNums (digs U)) := (show _ = _ by unfold numB; rw [← hU]; rfl)
  rw [← hU] at h1 hbd
  clear hU
  obtain ⟨i0, hi, hz0, hz1, hz2⟩ := info_parts Trydinfo5
  go_enter Tryd.func63, Tryd.ntmps63
  go_wp2_with (first | (go_at_call 75; refine (h1 _).mono ?_; rintro e w ⟨rfl, rfl⟩))
  clear h1
  have HU : Hid (U ≤ 18446744073709551615) := hid_intro (by omega)
  clear hbd hn
  have hown0 := World.ownsRow_made (base := w.heap.size) (e := 5) (size := 1) w #[] 0 (Nat.le_refl _) (by unfold maxLen; omega) rfl
  have hbel0 : Below w.heap.size w (w.alloc (Obj.cells #[] 5)) := (Below.refl _ _).alloc (Nat.le_refl _) _
  go_loopw [3, 4] (fun x v wr => ∃ (k : Nat) (acc : List Int), x = .int .u64 k ∧ Hid (Sofar U acc k) ∧ k ≤ U ∧ wr.ownsRow w.heap.size 5 1 v acc.length (acc.map (Value.int .u8)) ∧ Below w.heap.size w wr) (fun x _ _ => (intOf x).toNat)
  case atStart => exact ⟨U, [], rfl, sofar_zero U, Nat.le_refl _, hown0, hbel0⟩
  case round =>
    obtain ⟨k, acc, rfl, HS, hkU, hown, hnx⟩ := hrel
    clear hown0 hbel0
    by_cases hk : 128 ≤ k
    · have hlen := sofar_len HS.out HU.out hk
      have hk64 : (k : Int) ≤ 18446744073709551615 := by have := HU.out; omega
      have HS2 : Hid (Sofar U (acc ++ [((k : Int) % 128 + 128)]) (k / 128)) := sofar_more HS.out hk
      clear HS
      go_wp2_with (at_builtin; refine wpList_append_own _ rfl _ _ 22 rfl w.heap.size 5 i0 (.int .u8 0) 1 1 Tryd.underlying22 hi hz0 hz1 hz2 rfl (by decide) _ _ _ rfl (hown.alloc _) ⟨wr.heap.size, 0, none⟩ 1 1 [.int .u8 ((k : Int) % 128 + 128)] rfl rfl ?c1 ?c2 ?c3 ?c4 ?c5 ?_)
      case c1 =>
        intro j u hj
        match j, hj with
        | 0, hj => simp at hj; subst hj; simp [Addr.add]
      case c2 => intro u hu; simp at hu; subst hu; rfl
      case c3 => unfold maxLen; omega
      case c4 => omega
      case c5 => have := hnx.size; simp; omega
      intro v' w1 hown' hgrow hne
      have hb1 : Below w.heap.size w w1 := (hnx.alloc hnx.size _).grown hgrow (by have := hnx.size; simp; omega) (fun g hg => (hown.lt g hg).1)
      have hown2 : w1.ownsRow w.heap.size 5 1 v' (acc ++ [((k : Int) % 128 + 128)]).length ((acc ++ [((k : Int) % 128 + 128)]).map (Value.int .u8)) := by
        simpa using hown'
      clear hown' hgrow hown hnx hne
      go_wp2
      go_roundw
      case rel => exact ⟨k / 128, _, by go_num, HS2, by omega, hown2, hb1⟩
      case measure => simp [intOf]; omega
    · have hk2 : (k : Int) < 128 := by omega
      have HD : Hid (digs U = acc ++ [(k : Int)]) := sofar_end HS.out (by omega)
      have hlen : acc.length ≤ 9 := sofar_len9 HS.out HU.out
      clear HS
      go_wp2_with (at_builtin; refine wpList_append_own _ rfl _ _ 22 rfl w.heap.size 5 i0 (.int .u8 0) 1 1 Tryd.underlying22 hi hz0 hz1 hz2 rfl (by decide) _ _ _ rfl (hown.alloc _) ⟨wr.heap.size, 0, none⟩ 1 1 [.int .u8 (k : Int)] rfl rfl ?d1 ?d2 ?d3 ?d4 ?d5 ?_)
      case d1 =>
        intro j u hj
        match j, hj with
        | 0, hj => simp at hj; subst hj; simp [Addr.add]
      case d2 => intro u hu; simp at hu; subst hu; rfl
      case d3 => unfold maxLen; omega
      case d4 => omega
      case d5 => have := hnx.size; simp; omega
      intro v' w1 hown' hgrow hne
      have hb1 : Below w.heap.size w w1 := (hnx.alloc hnx.size _).grown hgrow (by have := hnx.size; simp; omega) (fun g hg => (hown.lt g hg).1)
      have hown2 : w1.ownsRow w.heap.size 5 1 v' (acc.length + 1) ((acc ++ [(k : Int)]).map (Value.int .u8)) := by
        simpa using hown'
      obtain ⟨g, cap, hv, hconv⟩ := own_string hown2 (by omega)
      clear hown' hgrow hown hnx hne hown2
      rw [hv]
      clear hv
      go_wp2
      go_ret
      exact ⟨ret_str (by rw [HE.out, HD.out]), hb1⟩
set_option maxRecDepth 100000 in
set_option maxHeartbeats 1000000 in
theorem impl_put (n : Int) (w : World) (hn : -9223372036854775808 ≤ n ∧ n ≤ 9223372036854775807) :
    Calls Tryd.prog 25 #[.int .i64 n] w fun e w' => e = .returned (.string (numB n)) ∧ Below w.heap.size w w' := by
  obtain ⟨U, hU⟩ : ∃ U : Nat, (U : Int) = foldN n := ⟨(foldN n).toNat, by have := fold_bd hn; omega⟩
  have hbd := fold_bd hn
  have h1 := fun w => impl_fold n w hn
  have HE : Hid (numB n = strOfNums (digs U)) := (show _ = _ by unfold numB; rw [← hU]; rfl)
  rw [← hU] at h1 hbd
  clear hU
  go_enter Tryd.func25, Tryd.ntmps25
  go_wp2_with (first | (go_at_call 56; refine (h1 _).mono ?_; rintro e w ⟨rfl, rfl⟩))
  clear h1
  have HU : Hid (U ≤ 18446744073709551615) := hid_intro (by omega)
  clear hbd hn
  go_loopw [4, 5] (fun c x wr => ∃ (k : Nat) (acc : List Int) (C : List Value), c = .int .i64 (acc.length : Nat) ∧ x = .int .u64 k ∧ Hid (Sofar U acc k) ∧ k ≤ U ∧ Hid (C.take acc.length = acc.map (Value.int .u8)) ∧ C.length = 10 ∧ wr = w.alloc (.cells C.toArray 89)) (fun _ x _ => (intOf x).toNat)
  case atStart => exact ⟨U, [], List.replicate 10 (.int .u8 0), rfl, rfl, sofar_zero U, Nat.le_refl _, rfl, rfl, rfl⟩
  case round =>
    obtain ⟨k, acc, C, rfl, rfl, HS, hkU, HC, hCl, rfl⟩ := hrel
    by_cases hk : 128 ≤ k
    · have hlen := sofar_len HS.out HU.out hk
      have hk64 : (k : Int) ≤ 18446744073709551615 := by have := HU.out; omega
      have HS2 : Hid (Sofar U (acc ++ [((k : Int) % 128 + 128)]) (k / 128)) := sofar_more HS.out hk
      clear HS
      have hcell : (w.alloc (.cells C.toArray 89)).cell? ⟨w.heap.size, acc.length, none⟩ = some (C[acc.length]'(by omega)) := by
        rw [World.cell?_alloc_mark]; simp [List.getElem?_eq_getElem (show acc.length < C.length by omega)]
      have HL : Hid (bits .or .u8 (bits .and .u64 (k : Int) 127 % 256) 128 = (k : Int) % 128 + 128) := low7 k hk64
      go_wp2
      go_roundw
      case rel =>
        refine ⟨k / 128, acc ++ [((k : Int) % 128 + 128)], C.set acc.length (Value.int .u8 ((k : Int) % 128 + 128)), by simp, by go_num, HS2, by omega, ?_, by simpa using hCl, by rw [HL.out]⟩
        show List.take _ _ = _
        rw [List.length_append, List.length_singleton, take_set (by omega), HC.out]
        simp
      case measure => simp [intOf]; omega
    · have hk2 : (k : Int) < 128 := by omega
      have HD : Hid (digs U = acc ++ [(k : Int)]) := sofar_end HS.out (by omega)
      have hlen : acc.length ≤ 9 := sofar_len9 HS.out HU.out
      clear HS
      have hcell : (w.alloc (.cells C.toArray 89)).cell? ⟨w.heap.size, acc.length, none⟩ = some (C[acc.length]'(by omega)) := by
        rw [World.cell?_alloc_mark]; simp [List.getElem?_eq_getElem (show acc.length < C.length by omega)]
      have hconv : (convert 22 9 (.slice (some ⟨w.heap.size, 0, none⟩) (acc.length + 1) 10)).run Tryd.prog (w.alloc (.cells (C.set acc.length (.int .u8 (k : Int))).toArray 89)) = .ok (.string (strOfNums (acc ++ [(k : Int)]))) (w.alloc (.cells (C.set acc.length (.int .u8 (k : Int))).toArray 89)) := by
        refine run_convert_bytes_arg _ 22 5 Tryd.underlying22 Tryd.underlying5 w.heap.size 0 (acc.length + 1) 10 (acc ++ [(k : Int)]) (by simp) ?_ 9 Tryd.underlying9
        intro i hi
        rw [Nat.zero_add, World.cell?_alloc_mark]
        have h1 : (C.set acc.length (Value.int .u8 (k : Int))).take (acc.length + 1) = (acc ++ [(k : Int)]).map (Value.int .u8) := by
          rw [take_set (by omega), HC.out]; simp
        have h2 : ((C.set acc.length (Value.int .u8 (k : Int))).take (acc.length + 1))[i]? = (C.set acc.length (Value.int .u8 (k : Int)))[i]? := by
          rw [List.getElem?_take_of_lt hi]
        rw [List.getElem?_toArray, ← h2, h1, List.getElem?_map, List.getElem?_eq_getElem (show i < (acc ++ [(k : Int)]).length by simpa using hi)]
        simp [List.getD, List.getElem?_eq_getElem (show i < (acc ++ [(k : Int)]).length by simpa using hi)]
      have hsl : ∀ wx, (Instr.sliceAt 89 (.pointer (some ⟨w.heap.size, 0, none⟩)) none (some (.int .i64 ((acc.length : Int) + 1))) none).run Tryd.prog wx = .ok (.slice (some ⟨w.heap.size, 0, none⟩) (acc.length + 1) 10) wx := by
        intro wx
        have e1 : (0 : Int) ≤ (acc.length : Int) + 1 := by omega
        have e2 : (acc.length : Int) + 1 ≤ ((Tryd.prog.arrayLen 89 : Nat) : Int) := by rw [Trydlen10]; omega
        obtain ⟨i0, hi, hz0, hz1, hz2⟩ := info_parts Trydinfo5
        rw [run_sliceAt_array_h (P := Tryd.prog) wx 89 ⟨w.heap.size, 0, none⟩ Trydund10 .i64 ((acc.length : Int) + 1) e1 e2, Trydlen10, Trydelem10]
        have e3 : ((acc.length : Int) + 1).toNat = acc.length + 1 := by omega
        simp [slicedAt, sizeOf, typeInfo, hi, e3, Addr.add, Result.andThen]
      go_wp2
      go_ret
      exact ⟨ret_str (by rw [HE.out, HD.out]), (Below.refl _ _).alloc (Nat.le_refl _) _⟩
theorem digs_len : ∀ (m v : Nat), v < 128 ^ (m + 1) → (digs v).length ≤ m + 1
  | 0, v, h => by rw [digs_last (by simpa using h)]; simp
  | m + 1, v, h => by
    by_cases hv : v < 128
    · rw [digs_last hv]; simp
    · rw [digs_more (by omega)]
      have : v / 128 < 128 ^ (m + 1) := by rw [Nat.div_lt_iff_lt_mul (by omega)]; rw [Nat.pow_succ] at h; exact h
      have := digs_len m (v / 128) this
      simp; omega
theorem numB_size {n : Int} (hn : -9223372036854775808 ≤ n ∧ n ≤ 9223372036854775807) : (numB n).size ≤ 10 := by
  unfold numB
  rw [strOfNums_size]
  have := fold_bd hn
  exact digs_len 9 _ (Nat.lt_of_le_of_lt (show (foldN n).toNat ≤ 18446744073709551615 by omega) (by decide))
end NumR
end Go.Proofs.YtaedolophhcjjaaDoor
namespace Go.Proofs.YtaedolophhcjjaaDoor
open Go.ChangeShapes Go.WideShapes Go.ChangeAt Go.RowKit
set_option linter.unusedVariables false
theorem hid_intro {p : Prop} (h : p) : Hid p := h
namespace JoinR
open Go.Lib (byteCells byteCells_length byteCells_append byteCells_one)
def jl (parts : List ByteArray) (k : Nat) : List UInt8 := (parts.take k).flatMap (fun p => p.data.toList)
def joinB (parts : List ByteArray) : ByteArray := ⟨(parts.flatMap (fun p => p.data.toList)).toArray⟩
theorem jl_zero (parts : List ByteArray) : jl parts 0 = [] := rfl
theorem jl_succ (parts : List ByteArray) (k : Nat) (h : k < parts.length) : jl parts (k + 1) = jl parts k ++ (parts[k]).data.toList := by
  unfold jl; rw [List.take_succ_eq_append_getElem h, List.flatMap_append]; simp only [List.flatMap_cons, List.flatMap_nil, List.append_nil]
theorem jl_all (parts : List ByteArray) : jl parts parts.length = parts.flatMap (fun p => p.data.toList) := by
  unfold jl; rw [List.take_of_length_le (Nat.le_refl _)]
theorem jl_le (parts : List ByteArray) (k : Nat) : (jl parts k).length ≤ (jl parts parts.length).length := by
  rw [jl_all]; unfold jl
  conv => rhs; rw [← List.take_append_drop k parts, List.flatMap_append, List.length_append]
  omega
theorem jl_len (parts : List ByteArray) (k : Nat) (h : k < parts.length) : (jl parts (k + 1)).length = (jl parts k).length + (parts[k]).size := by
  rw [jl_succ parts k h, List.length_append]; rfl

/-- 'copy(dst, s)', s a text: the run, and what it leaves of the row. -/
theorem copy_text_run {P : Program} {w : World} (dT sT ty : TypeId) (elem : TypeId) (hu : P.underlying dT = some (.slice elem)) (hsz : (P.info? elem).map (·.size) = some 1)
    (dp : Option Addr) (dLen dCap : Nat) (str : ByteArray)
    (g off : Nat) (cur : List Value) (t : TypeId) (hg : w.heap[g]? = some (.cells cur.toArray t (0, 0))) (hle : str.size ≤ dLen)
    (hpos : 0 < str.size → dp = some ⟨g, off, none⟩) (hfit : off + str.size ≤ cur.length) (B : Nat) (w0 : World) (hb : Below B w0 w) (hBg : B ≤ g) :
    ∃ w', (Builtin.copy_ #[dT, sT] ty #[.slice dp dLen dCap, .string str]).run P w = .ok (.int .i64 str.size) w' ∧ Hid (w'.heap[g]? = some (.cells (splice cur off (byteCells str.data.toList)).toArray t (0, 0))) ∧ Below B w0 w' := by
  have hlen : (byteCells str.data.toList).length = str.size := by rw [byteCells_length]; rfl
  by_cases h0 : str.size = 0
  · have hrun := Go.Lib.run_copy_empty_string (P := P) w dT sT ty elem dp dLen dCap str hu (by cases hq : P.info? elem <;> simp [hq] at hsz ⊢) h0
    have hnil : byteCells str.data.toList = [] := List.eq_nil_of_length_eq_zero (by omega)
    refine ⟨w, by rw [hrun, h0]; rfl, show _ = _ from ?_, hb⟩
    rw [hnil]
    simpa [splice] using hg
  · have hd' := hpos (by omega)
    subst hd'
    have hrun := Go.Lib.run_copy_row_string (P := P) w dT sT ty elem g off dLen dCap str cur.toArray t hu hsz hg hle (by simpa using hfit)
    refine ⟨_, hrun, show _ = _ from ?_, below_setRow hb hBg _⟩
    have := setRow_heap w g cur.toArray (List.take off cur ++ byteCells str.data.toList ++ List.drop (off + str.size) cur).toArray t (0, 0) hg
    simpa [splice, hlen] using this

theorem splice_next (pre cs rest : List Value) (h : cs.length ≤ rest.length) : splice (pre ++ rest) pre.length cs = (pre ++ cs) ++ rest.drop cs.length := by
  unfold splice
  simp [List.drop_append]

theorem row_of_full {w : World} {base e g n : Nat} {xs : List Value} (h : w.ownsRow base e 1 (.slice (some ⟨g, 0, none⟩) n n) n xs) :
    ∃ rest : List Value, w.heap[g]? = some (.cells rest.toArray e (0, 0)) ∧ rest.length = n := by
  rcases h.2 with ⟨h1, _⟩ | ⟨g', cap, cur, h1, _, hg, _, _, hs, _⟩
  · simp at h1
  · simp at h1
    obtain ⟨rfl, rfl⟩ := h1
    exact ⟨cur.toList, by simpa using hg, by simpa using hs⟩

theorem Trydinfo5 : (Tryd.prog.info? 5).map (fun i => (i.zero, i.size, i.bytes)) = some (some (.int .u8 0), 1, 1) := by kernel_rfl
theorem Trydsize5 : (Tryd.prog.info? 5).map (·.size) = some 1 := by kernel_rfl

set_option maxHeartbeats 2000000 in
theorem join_len (parts : List ByteArray) (b cap : Nat) (w : World) (hcap : parts.length ≤ cap) (hcm : parts.length ≤ 1000) (hb : b < w.heap.size)
    (hc : ∀ k (h : k < parts.length), w.cell? ⟨b, k, none⟩ = some (.string parts[k])) (htot : (jl parts parts.length).length ≤ 1099511627776) :
    Calls Tryd.prog 28 #[.slice (some ⟨b, 0, none⟩) parts.length cap] w fun e w' => e = .returned (.string (joinB parts)) ∧ Below w.heap.size w w' := by
  obtain ⟨i0, hi, hz0, hz1, hz2⟩ := info_parts Trydinfo5
  go_enter Tryd.func28, Tryd.ntmps28
  go_wp2
  go_loop [3, 12] (fun x i => ∃ k : Nat, k ≤ parts.length ∧ i = .int .i64 k ∧ x = .int .i64 ((jl parts k).length : Nat)) (fun _ i => parts.length - (intOf i).toNat)
  case atStart => exact ⟨0, by omega, rfl, rfl⟩
  case round =>
    obtain ⟨k, hk, rfl, rfl⟩ := hrel
    by_cases hlt : k < parts.length
    · have hcell := hc k hlt
      have h1 := jl_le parts (k + 1)
      have h2 := jl_len parts k hlt
      have HL : Hid ((jl parts (k + 1)).length = (jl parts k).length + (parts[k]).size) := h2
      have hbd : (jl parts k).length + (parts[k]).size ≤ 1099511627776 := by omega
      clear h1 h2
      go_wp2
      go_round
      case rel => exact ⟨k + 1, by omega, by go_num, by rw [HL.out]; go_num⟩
      case measure => simp [intOf]; omega
    · have : k = parts.length := by omega
      subst this
      obtain ⟨n, hn⟩ : ∃ n, n = (jl parts parts.length).length := ⟨_, rfl⟩
      rw [← hn] at htot ⊢
      have HN : Hid (n = (jl parts parts.length).length) := hn
      clear hn
      go_wp2_with (at_make; refine wpList_make_full _ rfl _ _ 22 rfl w.heap.size 5 i0 (.int .u8 0) 1 Tryd.underlying22 hi hz0 hz1 .i64 .i64 _ _ n rfl rfl rfl rfl ?b2 ?b3 ?b4 ?_)
      case b2 => omega
      case b3 => unfold maxLen; omega
      intro wm hown hgrow
      obtain ⟨rest0, hrow0, hrl0⟩ := row_of_full hown
      have hbm : Below w.heap.size w wm := (Below.refl _ _).grown hgrow (Nat.le_refl _) (fun _ h => by cases h)
      have HR0 : Hid (wm.heap[w.heap.size]? = some (.cells rest0.toArray 5 (0, 0))) := hrow0
      clear hown hgrow hrow0
      obtain ⟨G, hG⟩ : ∃ G, G = w.heap.size := ⟨_, rfl⟩
      have HG : Hid (G = w.heap.size) := hG
      rw [← hG] at hbm HR0 hb ⊢
      clear hG
      go_wp2
      go_loopw [7, 25] (fun x i wr => ∃ k : Nat, k ≤ parts.length ∧ i = .int .i64 k ∧ x = .int .i64 ((jl parts k).length : Nat) ∧ Below G w wr ∧ ∃ rest : List Value, Hid (wr.heap[G]? = some (.cells (byteCells (jl parts k) ++ rest).toArray 5 (0, 0))) ∧ rest.length = n - (jl parts k).length) (fun _ i _ => parts.length - (intOf i).toNat)
      case atStart => exact ⟨0, by omega, rfl, rfl, hbm, rest0, HR0, by rw [hrl0]; rfl⟩
      case round =>
        obtain ⟨k, hk, rfl, rfl, hbr, rest, HR, hrl⟩ := hrel
        by_cases hlt : k < parts.length
        · have hcell := hc k hlt
          have hcr : wr.cell? ⟨b, k, none⟩ = some (.string parts[k]) := (hbr.cell (p := ⟨b, k, none⟩) hb).trans hcell
          have h1 := jl_le parts (k + 1)
          have h2 := jl_len parts k hlt
          rw [← HN.out] at h1
          have HL : Hid ((jl parts (k + 1)).length = (jl parts k).length + (parts[k]).size) := h2
          have HB : Hid ((jl parts k).length + (parts[k]).size ≤ n) := hid_intro (by omega)
          have HC : Hid (jl parts (k + 1) = jl parts k ++ (parts[k]).data.toList) := jl_succ parts k hlt
          clear h1 h2 hcell
          obtain ⟨L, hL⟩ : ∃ L, L = jl parts k := ⟨_, rfl⟩
          rw [← hL] at HL HB HC HR hrl ⊢
          clear hL
          obtain ⟨m, hm⟩ : ∃ m, m = L.length := ⟨_, rfl⟩
          rw [← hm] at HL HB hrl ⊢
          have HM : Hid (m = L.length) := hm
          clear hm
          obtain ⟨q, hq⟩ : ∃ q, q = parts[k] := ⟨_, rfl⟩
          rw [← hq] at HL HB HC hcr
          clear hq
          have hqn : m + q.size ≤ n := HB.out
          have hfin : ∀ w', Hid (w'.heap[G]? = some (.cells (splice (byteCells L ++ rest) m (byteCells q.data.toList)).toArray 5 (0, 0))) → Below G w w' →
              ∃ k' : Nat, k' ≤ parts.length ∧ Value.int .i64 ((k : Int) + 1) = .int .i64 k' ∧ Value.int .i64 ((m : Int) + q.size) = .int .i64 ((jl parts k').length : Nat) ∧ Below G w w' ∧ ∃ rest : List Value, Hid (w'.heap[G]? = some (.cells (byteCells (jl parts k') ++ rest).toArray 5 (0, 0))) ∧ rest.length = n - (jl parts k').length := by
            intro w' hh hbb
            refine ⟨k + 1, by omega, by go_num, by rw [HL.out]; go_num, hbb, rest.drop (byteCells q.data.toList).length, ?_, ?_⟩
            · have hlen : (byteCells L).length = m := by rw [byteCells_length]; exact HM.out.symm
              have hq2 : (byteCells q.data.toList).length = q.size := byteCells_length _
              have := splice_next (byteCells L) (byteCells q.data.toList) rest (by rw [hq2, hrl]; omega)
              rw [hlen] at this
              rw [HC.out, byteCells_append, ← this]
              exact hh
            · have hq2 : (byteCells q.data.toList).length = q.size := byteCells_length _
              rw [List.length_drop, hq2, hrl, HL.out]; omega
          have HF := hid_intro hfin
          have hcur : (byteCells L ++ rest).length = n := by rw [List.length_append, byteCells_length, ← HM.out, hrl]; omega
          clear hfin HL HC HB
          by_cases hmn : m < n
          · obtain ⟨w4, hrun, hg4, hb4⟩ := copy_text_run (P := Tryd.prog) 22 9 3 5 Tryd.underlying22 Trydsize5 (some ⟨G, m, none⟩) (n - m) (n - m) q G m (byteCells L ++ rest) 5 HR.out (by omega) (fun _ => rfl) (by omega) G w hbr (Nat.le_refl _)
            clear HR
            go_wp2
            go_roundw
            case rel => exact HF.out _ hg4 hb4
            case measure => simp [intOf]; omega
          · obtain rfl : m = n := by omega
            have hq0 : q.size = 0 := by omega
            obtain ⟨w4, hrun, hg4, hb4⟩ := copy_text_run (P := Tryd.prog) 22 9 3 5 Tryd.underlying22 Trydsize5 (some ⟨G, 0, none⟩) 0 0 q G m (byteCells L ++ rest) 5 HR.out (by omega) (fun _ => by omega) (by omega) G w hbr (Nat.le_refl _)
            rw [hq0] at hrun
            clear HR
            go_wp2
            go_roundw
            case rel => have := HF.out _ hg4 hb4; simp only [hq0] at this; simpa using this
            case measure => simp [intOf]; omega
        · have : k = parts.length := by omega
          subst this
          have hall : (jl parts parts.length).length = n := HN.out.symm
          obtain rfl : rest = [] := List.eq_nil_of_length_eq_zero (by rw [hrl, hall]; omega)
          have hback := fun dst (hd : Tryd.prog.underlying dst = some .string) => run_convert_bytes_back (P := Tryd.prog) wr 22 dst 5 ⟨G, 0, none⟩ n (jl parts parts.length) Tryd.underlying22 Tryd.underlying5 hd (Go.Lib.bytes_of_row HR.out (by simp; rw [List.take_of_length_le (by simp [byteCells])]))
          have hb9 := hback 9 Tryd.underlying9
          rw [hall] at hb9
          clear hback hall HR
          go_wp2
          go_ret
          refine ⟨ret_str ?_, HG.out ▸ hbr⟩
          unfold joinB
          rw [← jl_all]
theorem join_any (parts : List ByteArray) (b cap : Nat) (w : World) (hcap : parts.length ≤ cap) (hcm : cap ≤ 1000) (hb : b < w.heap.size)
    (hc : ∀ k (h : k < parts.length), w.cell? ⟨b, k, none⟩ = some (.string parts[k])) (htot : (jl parts parts.length).length ≤ 1099511627776) :
    Calls Tryd.prog 28 #[.slice (some ⟨b, 0, none⟩) parts.length cap] w fun e w' => e = .returned (.string (joinB parts)) ∧ Below w.heap.size w w' :=
  join_len parts b cap w hcap (by omega) hb hc htot
theorem cell_new {w : World} {C : Array Value} {T : TypeId} {k : Nat} {v : Value} (h : C[k]? = some v) : (w.alloc (.cells C T)).cell? ⟨w.heap.size, k, none⟩ = some v := by
  rw [World.cell?_alloc_mark]; exact h
theorem join1 (a : ByteArray) (w : World) (ht : a.size ≤ 1099511627776) :
    Calls Tryd.prog 28 #[.slice (some ⟨w.heap.size, 0, none⟩) 1 1] (w.alloc (.cells #[.string a] 9)) fun e w' => e = .returned (.string a) ∧ Below w.heap.size w w' := by
  refine (join_any [a] w.heap.size 1 _ (Nat.le_refl _) (by omega) (by simp) (fun k h => cell_new (by match k, h with | 0, _ => rfl)) (by simp [jl]; exact ht)).mono ?_
  rintro e w' ⟨rfl, hb⟩
  refine ⟨ret_str (by unfold joinB; simp), ((Below.refl _ _).alloc (Nat.le_refl _) _).trans (hb.mono (by simp))⟩
theorem join2 (a b : ByteArray) (w : World) (ht : a.size + b.size ≤ 1099511627776) :
    Calls Tryd.prog 28 #[.slice (some ⟨w.heap.size, 0, none⟩) 2 2] (w.alloc (.cells #[.string a, .string b] 9)) fun e w' => e = .returned (.string (a ++ b)) ∧ Below w.heap.size w w' := by
  refine (join_any [a, b] w.heap.size 2 _ (Nat.le_refl _) (by omega) (by simp) (fun k h => cell_new (by match k, h with | 0, _ => rfl | 1, _ => rfl)) (by simp [jl]; exact ht)).mono ?_
  rintro e w' ⟨rfl, hb⟩
  refine ⟨ret_str (ByteArray.ext (by unfold joinB; simp)), ((Below.refl _ _).alloc (Nat.le_refl _) _).trans (hb.mono (by simp))⟩
end JoinR
end Go.Proofs.YtaedolophhcjjaaDoor
namespace Go.Proofs.YtaedolophhcjjaaDoor
open Go.ChangeShapes Go.WideShapes Go.ChangeAt Go.RowKit
open Go.ChangeMaps (open_string shut_string)
set_option linter.unusedVariables false
namespace PutTextL
theorem spec_text (t : ByteArray) (w : World) (ht : t.size ≤ 8000) :
    Calls Tryd.prog 64 #[.string t] w fun e w' => e = .returned (.string (NumR.numB t.size ++ t)) ∧ Below w.heap.size w w' := by
  obtain ⟨v, hv⟩ : ∃ v, v = NumR.numB t.size := ⟨_, rfl⟩
  have h1 := fun w => NumR.spec_put t.size w (by omega)
  have h2 := NumR.numB_size (n := t.size) (by omega)
  rw [← hv] at h1 h2
  rw [← hv]
  clear hv
  go_enter Tryd.func64, Tryd.ntmps64
  go_wp2_with (first | (go_at_call 63; refine (h1 _).mono ?_; rintro e w1 ⟨rfl, hb1⟩))
  go_ret
  exact ⟨rfl, hb1⟩
theorem impl_text (t : ByteArray) (w : World) (ht : t.size ≤ 8000) :
    Calls Tryd.prog 27 #[.string t] w fun e w' => e = .returned (.string (NumR.numB t.size ++ t)) ∧ Below w.heap.size w w' := by
  obtain ⟨v, hv⟩ : ∃ v, v = NumR.numB t.size := ⟨_, rfl⟩
  have h1 := fun w => NumR.impl_put t.size w (by omega)
  have h2 := NumR.numB_size (n := t.size) (by omega)
  rw [← hv] at h1 h2
  rw [← hv]
  clear hv
  go_enter Tryd.func27, Tryd.ntmps27
  go_wp2_with (first | (go_at_call 25; refine (h1 _).mono ?_; rintro e w1 ⟨rfl, hb1⟩) | (go_at_call 28; refine (JoinR.join2 v t _ (by omega)).mono ?_; rintro e w2 ⟨rfl, hb2⟩))
  go_ret
  exact ⟨rfl, hb1.trans (hb2.mono hb1.size)⟩
theorem spec_big (t : ByteArray) (w : World) (ht : 8000 < t.size) (hm : t.size ≤ 1048576) :
    Calls Tryd.prog 64 #[.string t] w fun e w' => e = .returned (.string ⟨#[]⟩) ∧ Below w.heap.size w w' := by
  go_enter Tryd.func64, Tryd.ntmps64
  go_wp2
  go_ret
  exact ⟨rfl, Below.refl _ _⟩
theorem impl_big (t : ByteArray) (w : World) (ht : 8000 < t.size) (hm : t.size ≤ 1048576) :
    Calls Tryd.prog 27 #[.string t] w fun e w' => e = .returned (.string ⟨#[]⟩) ∧ Below w.heap.size w w' := by
  go_enter Tryd.func27, Tryd.ntmps27
  go_wp2
  go_ret
  exact ⟨rfl, Below.refl _ _⟩
end PutTextL
end Go.Proofs.YtaedolophhcjjaaDoor
namespace Go.Proofs.YtaedolophhcjjaaDoor
open Go.ChangeShapes Go.WideShapes Go.ChangeAt Go.RowKit
set_option linter.unusedVariables false
namespace CatR
/-- A row of meters with the values that stand there. -/
def MesV (ao : Option Addr) (len : Nat) (ms : List Me) (V : Nat → Value) (w : World) : Prop := len = 0 ∨ ∃ b off, ao = some ⟨b, off, none⟩ ∧ b < w.heap.size ∧ ∀ j, j < len → ∃ ta tc, V j = .agg #[.string (mN ms j), .int .i64 (ms.getD j Me.zero).g, .bool (ms.getD j Me.zero).wh, .int .i64 (ms.getD j Me.zero).f, .int .i64 (ms.getD j Me.zero).l, .slice ta (ms.getD j Me.zero).ts.length tc] ∧ w.cell? ⟨b, off + j * 6, none⟩ = some (.string (mN ms j)) ∧ w.cell? ⟨b, off + j * 6 + 1, none⟩ = some (.int .i64 (ms.getD j Me.zero).g) ∧ w.cell? ⟨b, off + j * 6 + 2, none⟩ = some (.bool (ms.getD j Me.zero).wh) ∧ w.cell? ⟨b, off + j * 6 + 3, none⟩ = some (.int .i64 (ms.getD j Me.zero).f) ∧ w.cell? ⟨b, off + j * 6 + 4, none⟩ = some (.int .i64 (ms.getD j Me.zero).l) ∧ w.cell? ⟨b, off + j * 6 + 5, none⟩ = some (.slice ta (ms.getD j Me.zero).ts.length tc) ∧ Tis ta (ms.getD j Me.zero).ts.length (ms.getD j Me.zero).ts w
theorem MesV.below {ao : Option Addr} {len : Nat} {ms : List Me} {V : Nat → Value} {w w' : World} (h : MesV ao len ms V w) (hb : Below w.heap.size w w') : MesV ao len ms V w' := by
  rcases h with h | ⟨b, off, rfl, hl, h⟩
  · exact .inl h
  · refine .inr ⟨b, off, rfl, by have := hb.size; omega, fun j hj => ?_⟩
    obtain ⟨ta, tc, hv, h0, h1, h2, h3, h4, h5, h6⟩ := h j hj
    have f := fun k => hb.cell (p := ⟨b, k, none⟩) hl
    exact ⟨ta, tc, hv, (f _).trans h0, (f _).trans h1, (f _).trans h2, (f _).trans h3, (f _).trans h4, (f _).trans h5, h6.below hb⟩
theorem MesV.is {ao : Option Addr} {len : Nat} {ms : List Me} {V : Nat → Value} {w : World} (h : MesV ao len ms V w) (j : Nat) (hj : j < len) : IsMe (V j) (ms.getD j Me.zero) w := by
  rcases h with h | ⟨b, off, rfl, hl, h⟩
  · omega
  · obtain ⟨ta, tc, hv, _, _, _, _, _, _, h6⟩ := h j hj
    exact ⟨ta, tc, hv, h6⟩
theorem mes_v {ao : Option Addr} {len : Nat} {ms : List Me} {w : World} (h : Mes ao len ms w) : ∃ V, MesV ao len ms V w := by
  rcases h.2 with h | ⟨b, off, rfl, hl, h⟩
  · exact ⟨fun _ => undef, .inl h⟩
  · refine ⟨fun j => if hj : j < len then .agg #[.string (mN ms j), .int .i64 (ms.getD j Me.zero).g, .bool (ms.getD j Me.zero).wh, .int .i64 (ms.getD j Me.zero).f, .int .i64 (ms.getD j Me.zero).l, .slice (Classical.choose (h j hj)) (ms.getD j Me.zero).ts.length (Classical.choose (Classical.choose_spec (h j hj)))] else undef, .inr ⟨b, off, rfl, hl, fun j hj => ?_⟩⟩
    obtain ⟨h0, h1, h2, h3, h4, h5, h6⟩ := Classical.choose_spec (Classical.choose_spec (h j hj))
    exact ⟨_, _, by simp only [hj, dif_pos], h0, h1, h2, h3, h4, h5, h6⟩
theorem keyedS : Maps.Keyed Tryd.prog 9 := Maps.string_keyed Tryd.underlying9
set_option maxRecDepth 100000 in
set_option maxHeartbeats 4000000 in
theorem byName_any (ao : Option Addr) (len cap : Nat) (ms : List Me) (V : Nat → Value) (w : World) (hlen : len ≤ 6) (hn : ∀ i, i < len → (mN ms i).size ≤ 1048576) (hI : MesV ao len ms V w) :
    Calls Tryd.prog 41 #[.slice ao len cap] w fun e w' => e = .returned (.map (some w.heap.size)) ∧ w'.ownsMap Tryd.prog 9 RV w.heap.size len (mapD ms V len) ∧ Below w.heap.size w w' := by
  have HI := hid_intro hI
  have HN := hid_intro hn
  clear hI hn
  have HO0 : Hid ((w.alloc (.map #[] 0)).ownsMap Tryd.prog 9 RV w.heap.size 0 (mapD ms V 0)) := hid_intro (World.ownsMap_made w Tryd.prog 9 RV)
  have HB0 : Hid (Below w.heap.size w (w.alloc (.map #[] 0))) := hid_intro ((Below.refl _ _).alloc (Nat.le_refl _) _)
  have hmm := @run_makeMap Tryd.prog
  go_enter Tryd.func41, Tryd.ntmps41
  go_wp2_with fail
  go_loopw [9] (fun z wr => ∃ k : Nat, k ≤ len ∧ z = .int .i64 k ∧ Hid (Below w.heap.size w wr) ∧ Hid (wr.ownsMap Tryd.prog 9 RV w.heap.size k (mapD ms V k))) (fun z _ => len - (intOf z).toNat)
  case atStart => exact ⟨0, by omega, rfl, HB0, HO0⟩
  case round =>
    obtain ⟨k, hk, rfl, HB, HO⟩ := hrel
    by_cases hlt : k < len
    · have hlt2 : (k : Int) < (len : Int) := by omega
      rcases HI.out.below HB.out with h | ⟨b, off, rfl, hbl, h⟩
      · omega
      obtain ⟨ta, tc, hv, c0, c1, c2, c3, c4, c5, _⟩ := h k hlt
      clear h
      have HK := hid_intro (Go.WideMaps.keyOf_string_mk (P := Tryd.prog) (k := 9) Tryd.underlying9 (s := mN ms k) (Nat.le_trans (HN.out k hlt) (by unfold maxLen; omega)))
      have HV : Hid (RV (.agg #[.string (mN ms k), .int .i64 (ms.getD k Me.zero).g, .bool (ms.getD k Me.zero).wh, .int .i64 (ms.getD k Me.zero).f, .int .i64 (ms.getD k Me.zero).l, .slice ta (ms.getD k Me.zero).ts.length tc]) = some (.held (V k), [])) := hid_intro (by rw [hv]; rfl)
      have HD : Hid (mapD ms V (k + 1) = (mapD ms V k).put (kS (mN ms k)) (.held (V k))) := rfl
      have HKE : Hid (kS (mN ms k) = .string (mN ms k).data.toList) := rfl
      have HAl := hid_intro (fun o => HB.out.alloc HB.out.size o)
      have HOl := hid_intro (fun o => HO.out.alloc o)
      generalize (mapD ms V k) = D0 at *
      generalize kS (mN ms k) = K0 at *
      generalize mN ms k = n at *
      generalize V k = X at *
      generalize (ms.getD k Me.zero).ts.length = tl at *
      generalize (ms.getD k Me.zero).g = g at *
      generalize (ms.getD k Me.zero).wh = wh at *
      generalize (ms.getD k Me.zero).f = f at *
      generalize (ms.getD k Me.zero).l = l at *
      clear hv
      go_wp2_with (at_mapUpdate; refine wpList_mapUpdate_own _ rfl _ _ _ 75 rfl 9 37 keyedS Tryd.underlying75 RV w.heap.size k D0 rfl (HOl.out _) (by unfold maxLen; omega) _ _ _ rfl rfl HK.out (.held X) [] HV.out ?_; intro w1 hown1 hgrow1)
      have HO1 : Hid (w1.ownsMap Tryd.prog 9 RV w.heap.size (k + 1) (mapD ms V (k + 1))) := hid_intro (by rw [HD.out, HKE.out]; exact hown1)
      have HB1 : Hid (Below w.heap.size w w1) := hid_intro ((HAl.out _).grown hgrow1 (HAl.out _).size (fun k e => by cases e; exact Nat.le_refl _))
      clear hown1 hgrow1
      go_wp2_with fail
      go_roundw
      case rel => exact ⟨k + 1, by omega, by go_num, HB1, hid_intro HO1.out⟩
      case measure => simp [intOf]; omega
    · obtain rfl : k = len := by omega
      go_wp2_with fail
      go_ret
      exact ⟨rfl, HO.out, HB.out⟩
theorem gtr {w w1 w2 : World} {g : Option Nat} (h1 : w.grownBy w1 g) (h2 : w1.grownBy w2 g) : w.grownBy w2 g :=
  ⟨h2.os.trans h1.os, h2.tape.trans h1.tape, h2.output.trans h1.output, Nat.le_trans h1.size h2.size, fun k hk hne => (h2.block k (by have := h1.size; omega) hne).trans (h1.block k hk hne)⟩
theorem gnew {w wx : World} {g : Option Nat} (h : w.grownBy wx g) (o : Nat) (v : Value) : w.grownBy (wx.setCell ⟨w.heap.size, o, none⟩ v) g := by
  refine ⟨h.os, h.tape, h.output, by have := h.size; simpa using this, fun k hk hne => ?_⟩
  have e : (wx.setCell ⟨w.heap.size, o, none⟩ v).heap[k]? = wx.heap[k]? := by
    simp only [World.setCell]
    rw [Array.getElem?_modify, if_neg (by omega)]
  exact e.trans (h.block k hk hne)
/-- The program's own error stands in its variable. -/
def Laid (w : World) : Prop := 0 < w.heap.size ∧ ∃ a : Addr, w.cell? ⟨0, 0, none⟩ = some (.iface 128 (.pointer (some a)))
theorem Laid.below {w w' : World} (h : Laid w) (hb : Below w.heap.size w w') : Laid w' := by
  obtain ⟨h1, a, h2⟩ := h
  exact ⟨by have := hb.size; omega, a, (hb.cell (p := ⟨_, 0, none⟩) h1).trans h2⟩
theorem zeroM (w : World) : (zeroValue 37).run Tryd.prog w = .ok (.agg #[.string ⟨#[]⟩, .int .i64 0, .bool false, .int .i64 0, .int .i64 0, .slice none 0 0]) w := by kernel_rfl
set_option maxRecDepth 100000 in
set_option maxHeartbeats 4000000 in
theorem take_has (b N : Nat) (D : DataW Value) (n : ByteArray) (x0 : ByteArray) (x1 : Int) (x2 : Bool) (x3 x4 : Int) (x5 : Option Addr) (x6 x7 : Nat) (w : World) (hn : n.size ≤ 1048576) (hO : w.ownsMap Tryd.prog 9 RV b N D) (hh : Maps.has D (kS n) = true) (hx : ∀ z, D.atKey (kS n) z = .held (.agg #[.string x0, .int .i64 x1, .bool x2, .int .i64 x3, .int .i64 x4, .slice x5 x6 x7])) :
    Calls Tryd.prog 40 #[.map (some b), .string n] w fun e w' => e = .returned (.tuple #[.agg #[.string x0, .int .i64 x1, .bool x2, .int .i64 x3, .int .i64 x4, .slice x5 x6 x7], .nilIface]) ∧ w'.ownsMap Tryd.prog 9 RV b N (D.del (kS n)) ∧ w.grownBy w' (some b) := by
  have HK := hid_intro (Go.WideMaps.keyOf_string_mk (P := Tryd.prog) (k := 9) Tryd.underlying9 (s := n) (Nat.le_trans hn (by unfold maxLen; omega)))
  have HH := hid_intro hh
  have HX := hid_intro hx
  have HO := hid_intro hO
  have hlt := hO.lt
  clear hh hx hO
  have e : (.string n.data.toList : Lit) = kS n := rfl
  rw [e] at HK
  generalize kS n = K0 at *
  clear e
  obtain ⟨W, hW⟩ : ∃ W, W = w.alloc (.cells #[.string ⟨#[]⟩, .int .i64 0, .bool false, .int .i64 0, .int .i64 0, .slice none 0 0] 37) := ⟨_, rfl⟩
  obtain ⟨v, ps, hrun, hv⟩ := (HO.out.alloc (.cells #[.string ⟨#[]⟩, .int .i64 0, .bool false, .int .i64 0, .int .i64 0, .slice none 0 0] 37)).look_ok keyedS Tryd.underlying75 (zeroM _) (zd := .held (.agg #[.string ⟨#[]⟩, .int .i64 0, .bool false, .int .i64 0, .int .i64 0, .slice none 0 0])) (zp := []) rfl HK.out
  obtain rfl : v = .agg #[.string x0, .int .i64 x1, .bool x2, .int .i64 x3, .int .i64 x4, .slice x5 x6 x7] := by
    rw [HX.out] at hv
    simp [RV] at hv
    exact hv.1
  rw [HH.out] at hrun
  clear hv hW W
  have HOl := hid_intro (fun (o1 o2 : Obj) => (HO.out.alloc o1).alloc o2)
  have HGl := hid_intro (fun (o1 o2 : Obj) => gtr (World.grownBy_alloc w o1 (some b)) (World.grownBy_alloc (w.alloc o1) o2 (some b)))
  go_enter Tryd.func40, Tryd.ntmps40
  go_wp2_with (at_delete; refine wpList_delete_own _ rfl _ _ 75 9 rfl 37 keyedS Tryd.underlying75 RV b N D rfl (HOl.out _ _) _ _ rfl HK.out ?_; intro w1 hown1 hturn1; have hgr := hturn1.grown; have hsz : w.heap.size + 2 ≤ w1.heap.size := (by have := hgr.size; simp at this; omega); have E1 := fun o => World.cell?_of_block (a := ⟨w.heap.size + 1, o, none⟩) (hgr.block (w.heap.size + 1) (by simp) (by simp; omega)); have E2 := fun o => World.cell?_of_block (a := ⟨w.heap.size, o, none⟩) (hgr.block w.heap.size (by simp; omega) (by simp; omega)); have E3 := fun o => World.frozen?_of_block (a := ⟨w.heap.size, o, none⟩) (hgr.block w.heap.size (by simp; omega) (by simp; omega)); have m0 : w1.cell? ⟨w.heap.size + 1, 0, none⟩ = some (.string x0) := (E1 0).trans (by simp [go_sem]); have m1 : w1.cell? ⟨w.heap.size + 1, 1, none⟩ = some (.int .i64 x1) := (E1 1).trans (by simp [go_sem]); have m2 : w1.cell? ⟨w.heap.size + 1, 2, none⟩ = some (.bool x2) := (E1 2).trans (by simp [go_sem]); have m3 : w1.cell? ⟨w.heap.size + 1, 3, none⟩ = some (.int .i64 x3) := (E1 3).trans (by simp [go_sem]); have m4 : w1.cell? ⟨w.heap.size + 1, 4, none⟩ = some (.int .i64 x4) := (E1 4).trans (by simp [go_sem]); have m5 : w1.cell? ⟨w.heap.size + 1, 5, none⟩ = some (.slice x5 x6 x7) := (E1 5).trans (by simp [go_sem]); have r0 : w1.cell? ⟨w.heap.size, 0, none⟩ = some (.string ⟨#[]⟩) := (E2 0).trans (by simp [go_sem]); have f0 : w1.frozen? ⟨w.heap.size, 0, none⟩ = false := (E3 0).trans (by simp [go_sem]); have r1 : w1.cell? ⟨w.heap.size, 1, none⟩ = some (.int .i64 0) := (E2 1).trans (by simp [go_sem]); have f1 : w1.frozen? ⟨w.heap.size, 1, none⟩ = false := (E3 1).trans (by simp [go_sem]); have r2 : w1.cell? ⟨w.heap.size, 2, none⟩ = some (.bool false) := (E2 2).trans (by simp [go_sem]); have f2 : w1.frozen? ⟨w.heap.size, 2, none⟩ = false := (E3 2).trans (by simp [go_sem]); have r3 : w1.cell? ⟨w.heap.size, 3, none⟩ = some (.int .i64 0) := (E2 3).trans (by simp [go_sem]); have f3 : w1.frozen? ⟨w.heap.size, 3, none⟩ = false := (E3 3).trans (by simp [go_sem]); have r4 : w1.cell? ⟨w.heap.size, 4, none⟩ = some (.int .i64 0) := (E2 4).trans (by simp [go_sem]); have f4 : w1.frozen? ⟨w.heap.size, 4, none⟩ = false := (E3 4).trans (by simp [go_sem]); have r5 : w1.cell? ⟨w.heap.size, 5, none⟩ = some (.slice none 0 0) := (E2 5).trans (by simp [go_sem]); have f5 : w1.frozen? ⟨w.heap.size, 5, none⟩ = false := (E3 5).trans (by simp [go_sem]); have HG1 := hid_intro (gtr (HGl.out _ _) hgr); have HO1 := hid_intro hown1; clear E1 E2 E3 hgr hturn1 hown1)
  refine bodyPost_ret (v := .tuple #[.agg #[.string x0, .int .i64 x1, .bool x2, .int .i64 x3, .int .i64 x4, .slice x5 x6 x7], .nilIface]) (by simp [results, Tryd.results40, go_sem, r0, r1, r2, r3, r4, r5]) rfl ⟨rfl, ?_, ?_⟩
  · exact (((((HO1.out.setCell (a := ⟨w.heap.size, 0, none⟩) (show b ≠ w.heap.size by omega) _).setCell (a := ⟨w.heap.size, 1, none⟩) (show b ≠ w.heap.size by omega) _).setCell (a := ⟨w.heap.size, 2, none⟩) (show b ≠ w.heap.size by omega) _).setCell (a := ⟨w.heap.size, 3, none⟩) (show b ≠ w.heap.size by omega) _).setCell (a := ⟨w.heap.size, 4, none⟩) (show b ≠ w.heap.size by omega) _).setCell (a := ⟨w.heap.size, 5, none⟩) (show b ≠ w.heap.size by omega) _
  · exact gnew (gnew (gnew (gnew (gnew (gnew HG1.out _ _) _ _) _ _) _ _) _ _) _ _
set_option maxRecDepth 100000 in
set_option maxHeartbeats 4000000 in
theorem take_no (b N : Nat) (D : DataW Value) (n : ByteArray) (w : World) (hn : n.size ≤ 1048576) (hO : w.ownsMap Tryd.prog 9 RV b N D) (hh : Maps.has D (kS n) = false) (a0 : Addr) (hl : 0 < w.heap.size) (ha : w.cell? ⟨0, 0, none⟩ = some (.iface 128 (.pointer (some a0)))) :
    Calls Tryd.prog 40 #[.map (some b), .string n] w fun e w' => e = .returned (.tuple #[.agg #[.string ⟨#[]⟩, .int .i64 0, .bool false, .int .i64 0, .int .i64 0, .slice none 0 0], .iface 128 (.pointer (some a0))]) ∧ Below w.heap.size w w' := by
  have HK := hid_intro (Go.WideMaps.keyOf_string_mk (P := Tryd.prog) (k := 9) Tryd.underlying9 (s := n) (Nat.le_trans hn (by unfold maxLen; omega)))
  have HH := hid_intro hh
  have HO := hid_intro hO
  have hlt := hO.lt
  clear hh hO
  have e : (.string n.data.toList : Lit) = kS n := rfl
  rw [e] at HK
  generalize kS n = K0 at *
  clear e
  obtain ⟨v, ps, hrun, hv⟩ := (HO.out.alloc (.cells #[.string ⟨#[]⟩, .int .i64 0, .bool false, .int .i64 0, .int .i64 0, .slice none 0 0] 37)).look_ok keyedS Tryd.underlying75 (zeroM _) (zd := .held (.agg #[.string ⟨#[]⟩, .int .i64 0, .bool false, .int .i64 0, .int .i64 0, .slice none 0 0])) (zp := []) rfl HK.out
  obtain rfl : v = .agg #[.string ⟨#[]⟩, .int .i64 0, .bool false, .int .i64 0, .int .i64 0, .slice none 0 0] := by
    rw [Maps.atKey_of_not_has HH.out] at hv
    simp [RV] at hv
    exact hv.1
  rw [HH.out] at hrun
  clear hv
  go_enter Tryd.func40, Tryd.ntmps40
  go_wp2_with fail
  go_region
  all_goals try go_wp2
  refine bodyPost_ret (v := .tuple #[.agg #[.string ⟨#[]⟩, .int .i64 0, .bool false, .int .i64 0, .int .i64 0, .slice none 0 0], .iface 128 (.pointer (some a0))]) (by simp [results, Tryd.results40, go_sem]) rfl ⟨rfl, ?_⟩
  repeat' first | exact Below.refl _ _ | apply Below.setCell | apply Below.alloc | apply Below.drew
  all_goals first | omega | (simp; done) | (simp; omega)
end CatR
end Go.Proofs.YtaedolophhcjjaaDoor
namespace Go.Proofs.YtaedolophhcjjaaDoor
open Go.ChangeShapes Go.WideShapes Go.ChangeAt Go.RowKit
set_option linter.unusedVariables false
namespace CatR
theorem five (b1 b2 b3 b4 b5 : Bool) : (b1 = false) ∨ (b1 = true ∧ b2 = false) ∨ (b1 = true ∧ b2 = true ∧ b3 = false) ∨ (b1 = true ∧ b2 = true ∧ b3 = true ∧ b4 = false) ∨ (b1 = true ∧ b2 = true ∧ b3 = true ∧ b4 = true) := by
  cases b1 <;> cases b2 <;> cases b3 <;> cases b4 <;> simp
/-- A meter's cells. -/
abbrev meV (n : ByteArray) (g : Int) (wh : Bool) (f l : Int) (ta : Option Addr) (tl tc : Nat) : Value := .agg #[.string n, .int .i64 g, .bool wh, .int .i64 f, .int .i64 l, .slice ta tl tc]
set_option maxRecDepth 100000 in
set_option maxHeartbeats 4000000 in
theorem impl_meter (v : Value) (m : Me) (w : World) (hn : m.n.size ≤ 1048576) (hl : m.ts.length ≤ 1048576) (hM : IsMe v m w) :
    Calls Tryd.prog 19 #[v] w fun e w' => e = .returned (.bool (mB m)) ∧ Below w.heap.size w w' := by
  obtain ⟨ta, tc, rfl, hT⟩ := hM
  rw [mB_eq]
  obtain ⟨n, g, wh, f, l, ts⟩ := m
  simp only at *
  have H1 := hid_intro (fun w => NameR.impl_any n w hn)
  have H2 := hid_intro (fun w => within64 g 1 4 w)
  have H3 := hid_intro (fun w => within64 f 0 1000000000 w)
  have H4 := hid_intro (fun w => within64 l 0 1000000000000 w)
  have H5 : Hid (∀ W, Below w.heap.size w W → Calls Tryd.prog 49 #[.slice ta ts.length tc] W fun e w' => e = .returned (.bool (tB ts)) ∧ Below W.heap.size W w') := hid_intro (fun W hW => impl_tiers ta ts.length tc ts W hl (hT.below hW))
  have HB : Hid (Below w.heap.size w (w.alloc (.cells #[.string n, .int .i64 g, .bool wh, .int .i64 f, .int .i64 l, .slice ta ts.length tc] 37))) := hid_intro ((Below.refl _ _).alloc (Nat.le_refl _) _)
  generalize NameR.nameB n = b1 at *
  generalize decide (1 ≤ g ∧ g ≤ 4) = b2 at *
  generalize decide (0 ≤ f ∧ f ≤ 1000000000) = b3 at *
  generalize decide (0 ≤ l ∧ l ≤ 1000000000000) = b4 at *
  generalize tB ts = b5 at *
  clear hT hn hl
  generalize ts.length = tl at *
  rcases five b1 b2 b3 b4 b5 with rfl | ⟨rfl, rfl⟩ | ⟨rfl, rfl, rfl⟩ | ⟨rfl, rfl, rfl, rfl⟩ | ⟨rfl, rfl, rfl, rfl⟩
  all_goals
    go_enter Tryd.func19, Tryd.ntmps19
    go_wp2_with (first | (go_at_call 47; refine (H1.out _).mono ?_; rintro e w' ⟨rfl, rfl⟩) | (go_at_call_of 48 (Value.int .i64 g); refine (H2.out _).mono ?_; rintro e w' ⟨rfl, rfl⟩) | (go_at_call_of 48 (Value.int .i64 f); refine (H3.out _).mono ?_; rintro e w' ⟨rfl, rfl⟩) | (go_at_call_of 48 (Value.int .i64 l); refine (H4.out _).mono ?_; rintro e w' ⟨rfl, rfl⟩) | (go_at_call 49; refine (H5.out _ HB.out).mono ?_; rintro e w2 ⟨rfl, hb2⟩))
    go_ret
    exact ⟨ret_bool (by simp), by first | exact bel_alloc hb2 | exact HB.out⟩
set_option maxRecDepth 100000 in
set_option maxHeartbeats 4000000 in
theorem spec_meter (v : Value) (m : Me) (w : World) (hn : m.n.size ≤ 1048576) (hl : m.ts.length ≤ 1048576) (hM : IsMe v m w) :
    Calls Tryd.prog 20 #[v] w fun e w' => e = .returned (.bool (mB m)) ∧ Below w.heap.size w w' := by
  obtain ⟨ta, tc, rfl, hT⟩ := hM
  rw [mB_eq]
  obtain ⟨n, g, wh, f, l, ts⟩ := m
  simp only at *
  have H1 := hid_intro (fun w => NameR.spec_any n w hn)
  have H2 := hid_intro (fun w => isS g 1 4 w)
  have H3 := hid_intro (fun w => isS f 0 1000000000 w)
  have H4 := hid_intro (fun w => isS l 0 1000000000000 w)
  have H5 : Hid (∀ W, Below w.heap.size w W → Calls Tryd.prog 52 #[.slice ta ts.length tc] W fun e w' => e = .returned (.bool (tB ts)) ∧ Below W.heap.size W w') := hid_intro (fun W hW => spec_tiers ta ts.length tc ts W hl (hT.below hW))
  have HB : Hid (Below w.heap.size w (w.alloc (.cells #[.string n, .int .i64 g, .bool wh, .int .i64 f, .int .i64 l, .slice ta ts.length tc] 37))) := hid_intro ((Below.refl _ _).alloc (Nat.le_refl _) _)
  generalize NameR.nameB n = b1 at *
  generalize decide (1 ≤ g ∧ g ≤ 4) = b2 at *
  generalize decide (0 ≤ f ∧ f ≤ 1000000000) = b3 at *
  generalize decide (0 ≤ l ∧ l ≤ 1000000000000) = b4 at *
  generalize tB ts = b5 at *
  clear hT hn hl
  generalize ts.length = tl at *
  rcases five b1 b2 b3 b4 b5 with rfl | ⟨rfl, rfl⟩ | ⟨rfl, rfl, rfl⟩ | ⟨rfl, rfl, rfl, rfl⟩ | ⟨rfl, rfl, rfl, rfl⟩
  all_goals
    go_enter Tryd.func20, Tryd.ntmps20
    go_wp2_with (first | (go_at_call 50; refine (H1.out _).mono ?_; rintro e w' ⟨rfl, rfl⟩) | (go_at_call_of 51 (Value.int .i64 g); refine (H2.out _).mono ?_; rintro e w' ⟨rfl, rfl⟩) | (go_at_call_of 51 (Value.int .i64 f); refine (H3.out _).mono ?_; rintro e w' ⟨rfl, rfl⟩) | (go_at_call_of 51 (Value.int .i64 l); refine (H4.out _).mono ?_; rintro e w' ⟨rfl, rfl⟩) | (go_at_call 52; refine (H5.out _ HB.out).mono ?_; rintro e w2 ⟨rfl, hb2⟩))
    go_ret
    exact ⟨ret_bool (by simp), by first | exact bel_alloc hb2 | exact HB.out⟩
end CatR
end Go.Proofs.YtaedolophhcjjaaDoor
namespace Go.Proofs.YtaedolophhcjjaaDoor
open Go.RowKit Go.Extern.Stop Go.Stop Go.Extern
set_option linter.unusedVariables false
namespace IsR
theorem typeOfS (v : Value) (w : World) : (Extern.ReflectliteType.typeOf #[.iface 128 v]).run Tryd.prog w = .ok (.iface 116 (.agg #[.pointer (some ⟨1, 128, none⟩)])) w := by kernel_rfl
def compF : TypeId → Sem Value := fun t => do Rtype.noPackHeld "Comparable" t; pure (.bool (← typeInfo t).comparable)
theorem compS (w : World) : ((Extern.ReflectliteType.method compF) #[.agg #[.pointer (some ⟨1, 128, none⟩)]]).run Tryd.prog w = .ok (.bool true) w := by kernel_rfl
theorem methodComp (v : Value) (w : World) : (Go.method 264 116 v "Comparable").run Tryd.prog w = .ok (98, v) w := by kernel_rfl
theorem isComp : (Tryd.prog.info? 128).map (·.comparable) = some true := by kernel_rfl
theorem isSize : (Tryd.prog.info? 152).map (·.size) = some 1 := by kernel_rfl
theorem is_same (a : Addr) (w : World) :
    Calls Tryd.prog 42 #[.iface 128 (.pointer (some a)), .iface 128 (.pointer (some a))] w fun e w' => e = .returned (.bool true) ∧ w' = w := by
  obtain ⟨i, hi, hcmp⟩ := Option.map_eq_some_iff.1 isComp
  obtain ⟨j, hj, hjs⟩ := Option.map_eq_some_iff.1 isSize
  have h8 := @run_callFunc_extern Tryd.prog 68 _ Extern.ReflectliteType.typeOf Tryd.func68 (by kernel_rfl) (by kernel_rfl) (by kernel_rfl) (by kernel_rfl)
  have h32 := @run_callFunc_extern Tryd.prog 98 _ (Extern.ReflectliteType.method compF) Tryd.func98 (by kernel_rfl) (by kernel_rfl) (by kernel_rfl) (by kernel_rfl)
  have tT := typeOfS
  have cT := compS
  have mR := methodComp
  have heq := run_eql_iface_ptr_same (P := Tryd.prog) w a Tryd.underlying59 Tryd.underlying128 hi hcmp hj
  go_enter Tryd.func42, Tryd.ntmps42
  go_wp2
  refine wp_loop_rounds 1 ?_
  rw [rounds_succ]
  go_wp2
  go_ret
  exact ⟨rfl, rfl⟩
theorem is_nil (b : Addr) (w : World) :
    Calls Tryd.prog 42 #[.nilIface, .iface 128 (.pointer (some b))] w fun e w' => e = .returned (.bool false) ∧ w' = w := by
  have hn := run_eql_iface_nil_left (P := Tryd.prog) w 128 (.pointer (some b)) Tryd.underlying59
  go_enter Tryd.func42, Tryd.ntmps42
  go_wp2
  go_ret
  exact ⟨rfl, rfl⟩
end IsR
end Go.Proofs.YtaedolophhcjjaaDoor
namespace Go.Proofs.YtaedolophhcjjaaDoor
open Go.ChangeShapes Go.WideShapes Go.ChangeAt Go.RowKit
set_option linter.unusedVariables false
namespace CatR
set_option maxRecDepth 100000 in
set_option maxHeartbeats 8000000 in
theorem impl_ms (ao : Option Addr) (len cap : Nat) (ms : List Me) (V : Nat → Value) (w : World) (hz : ms.length = len) (hlen : len ≤ 1048576) (hS : ∀ i, i < len → (ms.getD i Me.zero).Small) (hI : MesV ao len ms V w) (hL : Laid w) :
    Calls Tryd.prog 53 #[.slice ao len cap] w fun e w' => e = .returned (.bool (msB ms)) ∧ Below w.heap.size w w' := by
  by_cases h6 : 6 < len
  · have h6' : (6 : Int) < (len : Int) := by omega
    have HR := hid_intro (ms_many (ms := ms) (by omega))
    clear hI hS hL
    go_enter Tryd.func53, Tryd.ntmps53
    go_wp2_with fail
    go_ret
    exact ⟨ret_bool HR.out.symm, Below.refl _ _⟩
  · have h6' : ¬ (6 : Int) < (len : Int) := by omega
    have HN := hid_intro (byName_any ao len cap ms V w (by omega) (fun i hi => (hS i hi).1) hI)
    have HI := hid_intro hI
    have HS := hid_intro hS
    have HL := hid_intro hL
    have HZ := hid_intro hz
    obtain ⟨hl0, a0, hl1⟩ := hL
    clear hI hS
    go_enter Tryd.func53, Tryd.ntmps53
    go_wp2_with fail
    refine HN.out.mono ?_
    rintro e w1 ⟨rfl, hown1, hb1⟩
    have HB1 := hid_intro hb1
    have HO1 := hid_intro hown1
    clear hown1 hb1
    go_wp2_with fail
    go_loopw [17] (fun z wr => ∃ k : Nat, k ≤ len ∧ z = .int .i64 k ∧ Hid (MOk ms k) ∧ Hid (Below w.heap.size w wr) ∧ Hid (wr.ownsMap Tryd.prog 9 RV w.heap.size len (delD ms (mapD ms V len) k))) (fun z _ => len - (intOf z).toNat)
    case atStart => exact ⟨0, by omega, rfl, hid_intro (MOk.zero ms), HB1, HO1⟩
    case round =>
      obtain ⟨k, hk, rfl, HK, HB, HO⟩ := hrel
      have hwr := HO.out.lt
      by_cases hlt : k < len
      · have hlt2 : (k : Int) < (len : Int) := by omega
        have hkl : k < ms.length := by have := HZ.out; omega
        rcases HI.out with h | ⟨b, off, rfl, hb0, h⟩
        · omega
        have HP : Hid (∀ j, j + 1 = k → w.cell? ⟨b, off + j * 6, none⟩ = some (.string (mN ms j))) := hid_intro (fun j hj => by
          obtain ⟨_, _, _, q, _⟩ := h j (by omega)
          exact q)
        have HVS : Hid (∀ j, j < len → ∃ x0 x1 x2 x3 x4 x5 x6 x7, V j = .agg #[.string x0, .int .i64 x1, .bool x2, .int .i64 x3, .int .i64 x4, .slice x5 x6 x7]) := hid_intro (fun j hj => by
          obtain ⟨_, _, q, _⟩ := h j hj
          exact ⟨_, _, _, _, _, _, _, _, q⟩)
        obtain ⟨ta, tc, hv, _, _, _, _, _, _, _⟩ := h k hlt
        have hbl : b < wr.heap.size := by have := HB.out.size; omega
        have hcw := fun o => HB.out.cell (p := ⟨b, o, none⟩) hb0
        obtain ⟨ta', tc', hv', c0, c1, c2, c3, c4, c5, _⟩ := h k hlt
        have eta : ta = ta' ∧ tc = tc' := by rw [hv] at hv'; simpa using hv'
        obtain ⟨rfl, rfl⟩ := eta
        clear hv' h
        replace c0 := (hcw _).trans c0
        replace c1 := (hcw _).trans c1
        replace c2 := (hcw _).trans c2
        replace c3 := (hcw _).trans c3
        replace c4 := (hcw _).trans c4
        replace c5 := (hcw _).trans c5
        have HMR := hid_intro (fun W (hW : Below w.heap.size w W) => impl_meter (V k) (ms.getD k Me.zero) W (HS.out k hlt).1 (HS.out k hlt).2 ((HI.out.below hW).is k hlt))
        have HWR := hid_intro (ms_wrong (ms := ms) hkl)
        have HFA := hid_intro (ms_falls (ms := ms) hkl)
        have HAL := hid_intro (fun i (hi : i < k) e => ms_alike (ms := ms) hkl hi e)
        have HMO := hid_intro (fun (h1 : mB (ms.getD k Me.zero) = true) h2 => HK.out.more (mB_iff.1 h1) h2)
        have HHD := hid_intro (has_delD ms (mapD ms V len) (mN ms k) k)
        have HHM : Hid (Maps.has (mapD ms V len) (kS (mN ms k)) = true) := hid_intro ((has_mapD ms V (mN ms k) len).2 ⟨k, hlt, rfl⟩)
        have HDS : Hid (delD ms (mapD ms V len) (k + 1) = (delD ms (mapD ms V len) k).del (kS (mN ms k))) := rfl
        have hnz : (mN ms k).size ≤ 1048576 := (HS.out k hlt).1
        rw [hv] at HMR
        generalize mB (ms.getD k Me.zero) = r at *
        cases hh : Maps.has (delD ms (mapD ms V len) k) (kS (mN ms k))
        · -- one ahead had this name
          obtain ⟨i, hi, hie⟩ : ∃ i, i < k ∧ mN ms i = mN ms k := by
            apply Classical.byContradiction
            intro hne
            have := HHD.out.2 ⟨HHM.out, fun i hi e => hne ⟨i, hi, e⟩⟩
            rw [hh] at this
            cases this
          have HR := hid_intro (HAL.out i hi hie)
          obtain ⟨j, hj⟩ : ∃ j, j + 1 = k := ⟨k - 1, by omega⟩
          have HT := hid_intro (take_no w.heap.size len _ (mN ms k) (wr.alloc (.cells #[.string (mN ms k), .int .i64 (ms.getD k Me.zero).g, .bool (ms.getD k Me.zero).wh, .int .i64 (ms.getD k Me.zero).f, .int .i64 (ms.getD k Me.zero).l, .slice ta (ms.getD k Me.zero).ts.length tc] 37)) hnz (HO.out.alloc _) hh a0 (by have := HB.out.size; simp only [World.alloc, Array.size_push]; omega) (((HB.out.alloc HB.out.size _).cell (p := ⟨0, 0, none⟩) hl0).trans hl1))
          generalize mN ms k = n at *
          generalize (ms.getD k Me.zero).ts.length = tl at *
          generalize (ms.getD k Me.zero).g = g at *
          generalize (ms.getD k Me.zero).wh = wh at *
          generalize (ms.getD k Me.zero).f = f at *
          generalize (ms.getD k Me.zero).l = l at *
          clear hv hh HWR HFA HMO HAL HHD HHM HDS hie hi hcw
          go_wp2_with fail
          refine HT.out.mono ?_
          rintro e w2 ⟨rfl, hbT⟩
          have hg : (wr.alloc (.cells #[.string n, .int .i64 g, .bool wh, .int .i64 f, .int .i64 l, .slice ta tl tc] 37)).grownBy w2 (some w.heap.size) := ⟨hbT.os, hbT.tape, hbT.output, hbT.size, fun k hk _ => hbT.block k hk⟩
          have hsz : wr.heap.size < w2.heap.size := by have := hg.size; simp at this; omega
          have EM := fun o => World.cell?_of_block (a := ⟨wr.heap.size, o, none⟩) (hg.block wr.heap.size (by simp) (by simp; omega))
          have m0 : w2.cell? ⟨wr.heap.size, 0, none⟩ = some (.string n) := (EM 0).trans (by simp [go_sem])
          have m1 : w2.cell? ⟨wr.heap.size, 1, none⟩ = some (.int .i64 g) := (EM 1).trans (by simp [go_sem])
          have m2 : w2.cell? ⟨wr.heap.size, 2, none⟩ = some (.bool wh) := (EM 2).trans (by simp [go_sem])
          have m3 : w2.cell? ⟨wr.heap.size, 3, none⟩ = some (.int .i64 f) := (EM 3).trans (by simp [go_sem])
          have m4 : w2.cell? ⟨wr.heap.size, 4, none⟩ = some (.int .i64 l) := (EM 4).trans (by simp [go_sem])
          have m5 : w2.cell? ⟨wr.heap.size, 5, none⟩ = some (.slice ta tl tc) := (EM 5).trans (by simp [go_sem])
          have HB2 : Hid (Below w.heap.size w w2) := hid_intro ((HB.out.alloc HB.out.size _).grown hg (HB.out.alloc HB.out.size _).size (fun k e => by cases e; exact Nat.le_refl _))
          have g0 : w2.cell? ⟨0, 0, none⟩ = some (.iface 128 (.pointer (some a0))) := (HB2.out.cell (p := ⟨0, 0, none⟩) hl0).trans hl1
          have hl2 : 0 < w2.heap.size := by have := HB2.out.size; omega
          have p2 : ∀ j, j + 1 = k → w2.cell? ⟨b, off + j * 6, none⟩ = some (.string (mN ms j)) := fun j hj => (HB2.out.cell (p := ⟨b, _, none⟩) hb0).trans (HP.out j hj)
          have HI2 := hid_intro (HI.out.below HB2.out)
          clear EM c0 c1 c2 c3 c4 c5
          have p3 := p2 j hj
          clear p2 hg hbT HT
          have HIS := hid_intro (fun w => IsR.is_same a0 w)
          have hj1 : IntKind.i64.wrap ((k : Int) - 1) = (j : Int) := by rw [IntKind.wrap_i64]; omega
          have hj2 : 0 < k := by omega
          have hj3 : (j : Int) < (len : Int) := by omega
          have hb2 : b < w2.heap.size := by have := HB2.out.size; omega
          have HF : Hid (∀ o m, Below w.heap.size w ((w2.alloc o).drewN m)) := hid_intro (fun o m => bdrewN (HB2.out.alloc HB2.out.size o) m)
          clear hj
          go_wp2_with (go_at_call 42; refine (HIS.out _).mono ?_; rintro e w' ⟨rfl, rfl⟩)
          go_quiet (fail)
          go_wp2_with fail
          go_ret
          exact ⟨ret_bool HR.out.symm, HF.out _ _⟩
        · have HAP := hid_intro (HHD.out.1 hh).2
          obtain ⟨q, hq, hqz⟩ := at_mapD_some ms V (mN ms k) len ⟨k, hlt, rfl⟩
          obtain ⟨x0, x1, x2, x3, x4, x5, x6, x7, hvq⟩ := HVS.out q hq
          have HT := hid_intro (take_has w.heap.size len _ (mN ms k) x0 x1 x2 x3 x4 x5 x6 x7 (wr.alloc (.cells #[.string (mN ms k), .int .i64 (ms.getD k Me.zero).g, .bool (ms.getD k Me.zero).wh, .int .i64 (ms.getD k Me.zero).f, .int .i64 (ms.getD k Me.zero).l, .slice ta (ms.getD k Me.zero).ts.length tc] 37)) hnz (HO.out.alloc _) hh (fun z => by rw [at_delD ms _ (mN ms k) z k HAP.out, hqz z, hvq]))
          have HHE := hid_intro hh
          have HRI : Hid (lt (mN ms k) (mN ms (k - 1)) = false → 0 < k → lt (mN ms (k - 1)) (mN ms k) = true) := hid_intro (fun h1 h0 => by
            cases h2 : lt (mN ms (k - 1)) (mN ms k)
            · exact absurd (lt_total h2 h1) (HAP.out (k - 1) (by omega))
            · rfl)
          clear hh hqz hvq
          rw [← HDS.out] at HT
          generalize mN ms k = n at *
          generalize (ms.getD k Me.zero).ts.length = tl at *
          generalize (ms.getD k Me.zero).g = g at *
          generalize (ms.getD k Me.zero).wh = wh at *
          generalize (ms.getD k Me.zero).f = f at *
          generalize (ms.getD k Me.zero).l = l at *
          clear hv HAL HHD HHM HDS hcw HHE
          go_wp2_with fail
          refine HT.out.mono ?_
          rintro e w2 ⟨rfl, hown2, hg⟩
          have HO2 := hid_intro hown2
          have hsz : wr.heap.size < w2.heap.size := by have := hg.size; simp at this; omega
          have EM := fun o => World.cell?_of_block (a := ⟨wr.heap.size, o, none⟩) (hg.block wr.heap.size (by simp) (by simp; omega))
          have m0 : w2.cell? ⟨wr.heap.size, 0, none⟩ = some (.string n) := (EM 0).trans (by simp [go_sem])
          have m1 : w2.cell? ⟨wr.heap.size, 1, none⟩ = some (.int .i64 g) := (EM 1).trans (by simp [go_sem])
          have m2 : w2.cell? ⟨wr.heap.size, 2, none⟩ = some (.bool wh) := (EM 2).trans (by simp [go_sem])
          have m3 : w2.cell? ⟨wr.heap.size, 3, none⟩ = some (.int .i64 f) := (EM 3).trans (by simp [go_sem])
          have m4 : w2.cell? ⟨wr.heap.size, 4, none⟩ = some (.int .i64 l) := (EM 4).trans (by simp [go_sem])
          have m5 : w2.cell? ⟨wr.heap.size, 5, none⟩ = some (.slice ta tl tc) := (EM 5).trans (by simp [go_sem])
          have HB2 : Hid (Below w.heap.size w w2) := hid_intro ((HB.out.alloc HB.out.size _).grown hg (HB.out.alloc HB.out.size _).size (fun k e => by cases e; exact Nat.le_refl _))
          have g0 : w2.cell? ⟨0, 0, none⟩ = some (.iface 128 (.pointer (some a0))) := (HB2.out.cell (p := ⟨0, 0, none⟩) hl0).trans hl1
          have hl2 : 0 < w2.heap.size := by have := HB2.out.size; omega
          have p2 : ∀ j, j + 1 = k → w2.cell? ⟨b, off + j * 6, none⟩ = some (.string (mN ms j)) := fun j hj => (HB2.out.cell (p := ⟨b, _, none⟩) hb0).trans (HP.out j hj)
          have HI2 := hid_intro (HI.out.below HB2.out)
          clear EM c0 c1 c2 c3 c4 c5
          clear hg hown2 HT
          have HIS := hid_intro (fun w => IsR.is_nil a0 w)
          have hb2 : b < w2.heap.size := by have := HB2.out.size; omega
          have HF : Hid (∀ o m, Below w.heap.size w ((w2.alloc o).drewN m)) := hid_intro (fun o m => bdrewN (HB2.out.alloc HB2.out.size o) m)
          have HFO : Hid (∀ o m, ((w2.alloc o).drewN m).ownsMap Tryd.prog 9 RV w.heap.size len (delD ms (mapD ms V len) (k + 1))) := hid_intro (fun o m => by obtain ⟨es, c, h⟩ := HO2.out.alloc o; exact ⟨es, c, h⟩)
          rcases (show k = 0 ∨ ∃ j, j + 1 = k from by rcases k with _ | j; exact .inl rfl; exact .inr ⟨j, rfl⟩) with rfl | ⟨j, hj⟩
          · go_wp2_with (go_at_call 42; refine (HIS.out _).mono ?_; rintro e w' ⟨rfl, rfl⟩)
            go_quiet (fail)
            go_wp2_with fail
            refine (HMR.out _ (HF.out _ _)).mono ?_
            rintro e w5 ⟨rfl, hb5⟩
            have HB5 := hid_intro ((HF.out _ _).trans (hb5.mono (HF.out _ _).size))
            have HO5 := hid_intro ((HFO.out _ _).kept (row := none) ⟨hb5.os, hb5.tape, hb5.output, hb5.size, fun k hk _ => hb5.block k hk⟩ (by simp))
            clear hb5
            cases r
            · have HR := hid_intro (HWR.out rfl)
              go_wp2_with fail
              go_ret
              exact ⟨ret_bool HR.out.symm, HB5.out⟩
            · have HM := hid_intro (HMO.out rfl (fun h => absurd h (by omega)))
              go_wp2_with fail
              go_roundw
              case rel => exact ⟨0 + 1, by omega, by go_num, HM, HB5, HO5⟩
              case measure => simp [intOf]; omega
          · have p3 := p2 j hj
            clear p2
            have hj1 : IntKind.i64.wrap ((k : Int) - 1) = (j : Int) := by rw [IntKind.wrap_i64]; omega
            have hj2 : 0 < k := by omega
            have hj3 : (j : Int) < (len : Int) := by omega
            have ejk : k - 1 = j := by omega
            rw [ejk] at HFA HRI HMO
            clear hj ejk
            cases hfl : Op.bytesLess n.toList (mN ms j).toList
            · have HRI2 := hid_intro (HRI.out hfl hj2)
              go_wp2_with (go_at_call 42; refine (HIS.out _).mono ?_; rintro e w' ⟨rfl, rfl⟩)
              go_quiet (fail)
              go_wp2_with fail
              refine (HMR.out _ (HF.out _ _)).mono ?_
              rintro e w5 ⟨rfl, hb5⟩
              have HB5 := hid_intro ((HF.out _ _).trans (hb5.mono (HF.out _ _).size))
              have HO5 := hid_intro ((HFO.out _ _).kept (row := none) ⟨hb5.os, hb5.tape, hb5.output, hb5.size, fun k hk _ => hb5.block k hk⟩ (by simp))
              clear hb5
              cases r
              · have HR := hid_intro (HWR.out rfl)
                go_wp2_with fail
                go_ret
                exact ⟨ret_bool HR.out.symm, HB5.out⟩
              · have HM := hid_intro (HMO.out rfl (fun _ => HRI2.out))
                go_wp2_with fail
                go_roundw
                case rel => exact ⟨k + 1, by omega, by go_num, HM, HB5, HO5⟩
                case measure => simp [intOf]; omega
            · have HR := hid_intro (HFA.out hj2 hfl)
              go_wp2_with (go_at_call 42; refine (HIS.out _).mono ?_; rintro e w' ⟨rfl, rfl⟩)
              go_quiet (fail)
              go_wp2_with fail
              go_ret
              exact ⟨ret_bool HR.out.symm, HF.out _ _⟩
      · obtain rfl : k = len := by omega
        have HR : Hid (msB ms = true) := hid_intro (ms_end (by have := HZ.out; omega) (by rw [HZ.out]; exact HK.out))
        go_wp2_with fail
        go_ret
        exact ⟨ret_bool HR.out.symm, HB.out⟩
end CatR
end Go.Proofs.YtaedolophhcjjaaDoor
namespace Go.Proofs.YtaedolophhcjjaaDoor
open Go.ChangeShapes Go.WideShapes Go.ChangeAt Go.RowKit
set_option linter.unusedVariables false
namespace CatR
/-- The account ahead, none ahead of the first. -/
def cP (cs : List Cr) : Nat → ByteArray
  | 0 => ⟨#[]⟩
  | k + 1 => cA cs k
theorem leq_yes {a p : ByteArray} (h : (Op.bytesLess a.toList p.toList || (a.toList == p.toList)) = true) : lt p a = false := by
  rw [Bool.or_eq_true] at h
  rcases h with h | h
  · exact lt_asymm h
  · rw [toList_inj (beq_iff_eq.1 h)]; exact lt_irrefl _
theorem leq_no {a p : ByteArray} (h : (Op.bytesLess a.toList p.toList || (a.toList == p.toList)) = false) : lt p a = true := by
  rw [Bool.or_eq_false_iff] at h
  cases h2 : lt p a
  · have := lt_total h2 h.1
    rw [this] at h
    simp at h
  · rfl
theorem cs_le {cs : List Cr} {k : Nat} (hk : k < cs.length) (h : (Op.bytesLess (cA cs k).toList (cP cs k).toList || ((cA cs k).toList == (cP cs k).toList)) = true) : csB cs = false := by
  have h2 := leq_yes h
  match k, hk, h2 with
  | 0, hk, h2 =>
    refine cs_name hk ?_
    apply NameR.name_size
    rcases Nat.lt_or_ge (cA cs 0).size 1 with h3 | h3
    · exact .inl h3
    · have := lt_empty h3
      rw [show lt ⟨#[]⟩ (cA cs 0) = lt (cP cs 0) (cA cs 0) from rfl, h2] at this
      cases this
  | k + 1, hk, h2 => exact cs_flat hk (by omega) h2
theorem cs_go {cs : List Cr} {k : Nat} (h : COk cs k) (hl : (Op.bytesLess (cA cs k).toList (cP cs k).toList || ((cA cs k).toList == (cP cs k).toList)) = false) (hn : NameR.nameB (cA cs k) = true) (hm : 0 ≤ cM cs k ∧ cM cs k ≤ 1000000000000) : COk cs (k + 1) := by
  refine h.more hn hm (fun h0 => ?_)
  have h2 := leq_no hl
  match k, h0, h2 with
  | k + 1, _, h2 => exact h2
set_option maxRecDepth 100000 in
set_option maxHeartbeats 8000000 in
theorem impl_cs (ao : Option Addr) (len cap : Nat) (cs : List Cr) (w : World) (hlen : len ≤ 1048576) (hS : ∀ i, i < len → (cs.getD i Cr.zero).a.size ≤ 1048576) (hI : Crs ao len cs w) :
    Calls Tryd.prog 54 #[.slice ao len cap] w fun e w' => e = .returned (.bool (csB cs)) ∧ Below w.heap.size w w' := by
  have hz := hI.1
  by_cases h6 : 6 < len
  · have h6' : (6 : Int) < (len : Int) := by omega
    have HR := hid_intro (cs_many (cs := cs) (by omega))
    clear hI hS
    go_enter Tryd.func54, Tryd.ntmps54
    go_wp2_with fail
    go_ret
    exact ⟨ret_bool HR.out.symm, Below.refl _ _⟩
  · have h6' : ¬ (6 : Int) < (len : Int) := by omega
    have HI := hid_intro hI
    have HS := hid_intro hS
    have HZ := hid_intro hz
    clear hI hS
    go_enter Tryd.func54, Tryd.ntmps54
    go_wp2_with fail
    go_loopw [3, 11] (fun x z wr => ∃ k : Nat, k ≤ len ∧ x = .string (cP cs k) ∧ z = .int .i64 k ∧ Hid (COk cs k) ∧ Hid (Below w.heap.size w wr)) (fun x z _ => len - (intOf z).toNat)
    case atStart => exact ⟨0, by omega, rfl, rfl, hid_intro (COk.zero cs), hid_intro (Below.refl _ _)⟩
    case round =>
      obtain ⟨k, hk, rfl, rfl, HK, HB⟩ := hrel
      by_cases hlt : k < len
      · have hlt2 : (k : Int) < (len : Int) := by omega
        have hkl : k < cs.length := by have := HZ.out; omega
        obtain ⟨b, off, rfl, hbl, d0, d1⟩ := crs_at (HI.out.below HB.out) k hlt
        have c0 : wr.cell? ⟨b, off + k * 2, none⟩ = some (.string (cA cs k)) := d0
        have c1 : wr.cell? ⟨b, off + k * 2 + 1, none⟩ = some (.int .i64 (cM cs k)) := d1
        clear d0 d1
        have hsz : (cA cs k).size ≤ 1048576 := HS.out k hlt
        have HN := hid_intro (fun w => NameR.impl_any (cA cs k) w hsz)
        have HW := hid_intro (fun w => within64 (cM cs k) 0 1000000000000 w)
        have HLE := hid_intro (cs_le hkl)
        have HNA := hid_intro (cs_name hkl)
        have HMI := hid_intro (cs_micro hkl)
        have HGO := hid_intro (cs_go HK.out)
        have HP : Hid (cP cs (k + 1) = cA cs k) := rfl
        generalize NameR.nameB (cA cs k) = r at *
        generalize cA cs k = a at *
        generalize cP cs k = p at *
        generalize cM cs k = m at *
        have HAl := hid_intro (fun o => HB.out.alloc HB.out.size o)
        cases hle : (Op.bytesLess a.toList p.toList || (a.toList == p.toList))
        · cases r
          · have HR := hid_intro (HNA.out rfl)
            go_wp2_with (first | (go_at_call 47; refine (HN.out _).mono ?_; rintro e w' ⟨rfl, rfl⟩) | (go_at_call 48; refine (HW.out _).mono ?_; rintro e w' ⟨rfl, rfl⟩))
            go_ret
            exact ⟨ret_bool HR.out.symm, HAl.out _⟩
          · by_cases hm : 0 ≤ m ∧ m ≤ 1000000000000
            · have HM := hid_intro (HGO.out hle rfl hm)
              rw [decide_eq_true hm] at HW
              go_wp2_with (first | (go_at_call 47; refine (HN.out _).mono ?_; rintro e w' ⟨rfl, rfl⟩) | (go_at_call 48; refine (HW.out _).mono ?_; rintro e w' ⟨rfl, rfl⟩))
              go_roundw
              case rel => exact ⟨k + 1, by omega, by rw [HP.out], by go_num, HM, hid_intro (HAl.out _)⟩
              case measure => simp [intOf]; omega
            · have HR := hid_intro (HMI.out hm)
              rw [decide_eq_false hm] at HW
              go_wp2_with (first | (go_at_call 47; refine (HN.out _).mono ?_; rintro e w' ⟨rfl, rfl⟩) | (go_at_call 48; refine (HW.out _).mono ?_; rintro e w' ⟨rfl, rfl⟩))
              go_ret
              exact ⟨ret_bool HR.out.symm, HAl.out _⟩
        · have HR := hid_intro (HLE.out hle)
          go_wp2_with fail
          go_ret
          exact ⟨ret_bool HR.out.symm, HAl.out _⟩
      · obtain rfl : k = len := by omega
        have HR : Hid (csB cs = true) := hid_intro (cs_end (by have := HZ.out; omega) (by rw [HZ.out]; exact HK.out))
        go_wp2_with fail
        go_ret
        exact ⟨ret_bool HR.out.symm, HB.out⟩
end CatR
end Go.Proofs.YtaedolophhcjjaaDoor
namespace Go.Proofs.YtaedolophhcjjaaDoor
open Go.ChangeShapes Go.WideShapes Go.ChangeAt Go.RowKit
set_option linter.unusedVariables false
namespace CatR
set_option maxHeartbeats 4000000 in
theorem impl_ca (v : Value) (c : Ca) (w : World) (hS : c.Small) (hC : IsCa v c w) (hL : Laid w) :
    Calls Tryd.prog 21 #[v] w fun e w' => e = .returned (.bool (caB c)) ∧ Below w.heap.size w w' := by
  obtain ⟨ma, mc, ca, cc, rfl, hM, hR⟩ := hC
  obtain ⟨ms, cs⟩ := c
  obtain ⟨s1, s2, s3, s4⟩ := hS
  simp only at *
  obtain ⟨V, hV⟩ := mes_v hM
  have HM : Hid (∀ W, Below w.heap.size w W → Calls Tryd.prog 53 #[.slice ma ms.length mc] W fun e w' => e = .returned (.bool (msB ms)) ∧ Below W.heap.size W w') := hid_intro (fun W hW => impl_ms ma ms.length mc ms V W rfl s1 s2 (hV.below hW) (hL.below hW))
  have HR : Hid (∀ W, Below w.heap.size w W → Calls Tryd.prog 54 #[.slice ca cs.length cc] W fun e w' => e = .returned (.bool (csB cs)) ∧ Below W.heap.size W w') := hid_intro (fun W hW => impl_cs ca cs.length cc cs W s3 s4 (hR.below hW))
  have HV : Hid (caB ⟨ms, cs⟩ = (msB ms && csB cs)) := rfl
  clear hM hR s1 s2 s3 s4 hV hL
  generalize msB ms = r1 at *
  generalize csB cs = r2 at *
  generalize caB ⟨ms, cs⟩ = R at *
  generalize ms.length = ml at *
  generalize cs.length = cl at *
  have HB : Hid (Below w.heap.size w (w.alloc (.cells #[.slice ma ml mc, .slice ca cl cc] 26))) := hid_intro ((Below.refl _ _).alloc (Nat.le_refl _) _)
  have hw1 : ∀ w1, Below (w.alloc (.cells #[.slice ma ml mc, .slice ca cl cc] 26)).heap.size (w.alloc (.cells #[.slice ma ml mc, .slice ca cl cc] 26)) w1 → w.heap.size < w1.heap.size ∧ w1.cell? ⟨w.heap.size, 1, none⟩ = some (.slice ca cl cc) := fun w1 hb => ⟨by have := hb.size; simp at this; omega, (hb.cell (p := ⟨w.heap.size, 1, none⟩) (by simp)).trans (by simp [go_sem])⟩
  have HW1 := hid_intro hw1
  clear hw1
  go_enter Tryd.func21, Tryd.ntmps21
  go_wp2_with fail
  refine (HM.out _ HB.out).mono ?_
  rintro e w1 ⟨rfl, hb1⟩
  have HB1 := hid_intro (HB.out.trans (hb1.mono HB.out.size))
  obtain ⟨hl, p1⟩ := HW1.out _ hb1
  clear hb1
  cases r1
  · go_wp2_with fail
    go_ret
    exact ⟨ret_bool (by rw [HV.out]; rfl), HB1.out⟩
  · go_wp2_with fail
    refine (HR.out _ HB1.out).mono ?_
    rintro e w2 ⟨rfl, hb2⟩
    have HB2 := hid_intro (HB1.out.trans (hb2.mono HB1.out.size))
    clear hb2
    go_wp2_with fail
    go_ret
    exact ⟨ret_bool (by rw [HV.out]; rfl), HB2.out⟩
end CatR
end Go.Proofs.YtaedolophhcjjaaDoor
namespace Go.Proofs.YtaedolophhcjjaaDoor
open Go.ChangeShapes Go.WideShapes Go.ChangeAt Go.RowKit
/-- A world that holds some facts. -/
structure HW (S : World → Prop) where
  w : World
  h : S w
theorem wp_region_hw {P : Program} {id : Nat} {Q : Exit → Act → World → Prop} {a : Act} {w : World} {l : List Oper} (S : World → Prop) (hm : P.follows .mixedOrders = true) (hB : Region.lexB .any l.toArray = true) (hC : S w.drew)
    (h : wpQuiet P l.toArray (fun w' => ∃ s : HW S, w' = s.w) (fun a' => ∀ w', (∃ s : HW S, w' = s.w) → Q .normal a' w') l a) : (Code.region id l.toArray true).wp P Q a w :=
  wp_region_quiet (C := fun w' => ∃ s : HW S, w' = s.w) hm hB ⟨⟨_, hC⟩, rfl⟩ (by simpa using h)
end Go.Proofs.YtaedolophhcjjaaDoor
namespace Go.Proofs.YtaedolophhcjjaaDoor
open Go.ChangeShapes Go.WideShapes Go.ChangeAt Go.RowKit
set_option linter.unusedVariables false
namespace CatR
theorem blk2 {b : Nat} {x y : Value} {w : World} (hl : b < w.heap.size) (h0 : w.cell? ⟨b, 0, none⟩ = some x) (h1 : w.cell? ⟨b, 1, none⟩ = some y) : Blk b [x, y] w := ⟨hl, fun i hi => by
  match i, hi with
  | 0, _ => exact h0
  | 1, _ => exact h1⟩
/-- What is held through a round's region: the catalog's cells, the meter's, and the name ahead. -/
def BS (w : World) (B b o o' : Nat) (x0 x1 a0 a1 a2 a3 a4 a5 p : Value) (W : World) : Prop := Below w.heap.size w W ∧ B < W.heap.size ∧ b < W.heap.size ∧ W.cell? ⟨B, 0, none⟩ = some x0 ∧ W.cell? ⟨B, 1, none⟩ = some x1 ∧ W.cell? ⟨b, o, none⟩ = some a0 ∧ W.cell? ⟨b, o + 1, none⟩ = some a1 ∧ W.cell? ⟨b, o + 2, none⟩ = some a2 ∧ W.cell? ⟨b, o + 3, none⟩ = some a3 ∧ W.cell? ⟨b, o + 4, none⟩ = some a4 ∧ W.cell? ⟨b, o + 5, none⟩ = some a5 ∧ W.cell? ⟨b, o', none⟩ = some p
theorem BS.below {w : World} {B b o o' : Nat} {x0 x1 a0 a1 a2 a3 a4 a5 p : Value} {W W' : World} (h : BS w B b o o' x0 x1 a0 a1 a2 a3 a4 a5 p W) (hb : Below W.heap.size W W') : BS w B b o o' x0 x1 a0 a1 a2 a3 a4 a5 p W' := by
  obtain ⟨h0, l1, l2, p0, p1, q0, q1, q2, q3, q4, q5, q6⟩ := h
  have f := fun o => hb.cell (p := ⟨B, o, none⟩) l1
  have g := fun o => hb.cell (p := ⟨b, o, none⟩) l2
  have hs := hb.size
  exact ⟨h0.trans (hb.mono h0.size), by omega, by omega, (f _).trans p0, (f _).trans p1, (g _).trans q0, (g _).trans q1, (g _).trans q2, (g _).trans q3, (g _).trans q4, (g _).trans q5, (g _).trans q6⟩
theorem BS.drew {w : World} {B b o o' : Nat} {x0 x1 a0 a1 a2 a3 a4 a5 p : Value} {W : World} (h : BS w B b o o' x0 x1 a0 a1 a2 a3 a4 a5 p W) : BS w B b o o' x0 x1 a0 a1 a2 a3 a4 a5 p W.drew := ⟨h.1.drew, h.2⟩
set_option maxRecDepth 100000 in
set_option maxHeartbeats 8000000 in
theorem spec_ca (v : Value) (c : Ca) (w : World) (hS : c.Small) (hC : IsCa v c w) :
    Calls Tryd.prog 22 #[v] w fun e w' => e = .returned (.bool (caB c)) ∧ Below w.heap.size w w' := by
  obtain ⟨ma, mc, ca, cc, rfl, hM, hR⟩ := hC
  obtain ⟨ms, cs⟩ := c
  obtain ⟨s1, s2, s3, s4⟩ := hS
  simp only at *
  obtain ⟨V, hV⟩ := mes_v hM
  have HVV : Hid (caB ⟨ms, cs⟩ = (msB ms && csB cs)) := rfl
  have HI := hid_intro hV
  have HJ := hid_intro hR
  have HS2 := hid_intro s2
  have HS4 := hid_intro s4
  generalize hml : ms.length = ml at *
  generalize hcl : cs.length = cl at *
  have HML := hid_intro hml
  have HCL := hid_intro hcl
  clear hM hV hR s2 s4 hml hcl
  have HA0 : Hid (Blk w.heap.size [.slice ma ml mc, .slice ca cl cc] (w.alloc (.cells #[.slice ma ml mc, .slice ca cl cc] 26))) := hid_intro (Blk.new w _ _)
  have HB0 : Hid (Below w.heap.size w (w.alloc (.cells #[.slice ma ml mc, .slice ca cl cc] 26))) := hid_intro ((Below.refl _ _).alloc (Nat.le_refl _) _)
  by_cases h6 : 6 < ml
  · have h6' : (6 : Int) < (ml : Int) := by omega
    have HR := hid_intro (ms_many (ms := ms) (by have := HML.out; omega))
    go_enter Tryd.func22, Tryd.ntmps22
    go_wp2_with fail
    go_ret
    exact ⟨ret_bool (by rw [HVV.out, HR.out]; rfl), HB0.out⟩
  · by_cases g6 : 6 < cl
    · have g6' : (6 : Int) < (cl : Int) := by omega
      have h6' : ¬ (6 : Int) < (ml : Int) := by omega
      have HR := hid_intro (cs_many (cs := cs) (by have := HCL.out; omega))
      go_enter Tryd.func22, Tryd.ntmps22
      go_wp2_with fail
      go_ret
      exact ⟨ret_bool (by rw [HVV.out, HR.out]; simp), HB0.out⟩
    · have g6' : ¬ (6 : Int) < (cl : Int) := by omega
      have h6' : ¬ (6 : Int) < (ml : Int) := by omega
      go_enter Tryd.func22, Tryd.ntmps22
      go_wp2_with fail
      go_loopw [3] (fun z wr => ∃ k : Nat, k ≤ ml ∧ z = .int .i64 k ∧ Hid (MOk ms k) ∧ Hid (Below w.heap.size w wr) ∧ Hid (Blk w.heap.size [.slice ma ml mc, .slice ca cl cc] wr)) (fun z _ => ml - (intOf z).toNat)
      case atStart => exact ⟨0, by omega, rfl, hid_intro (MOk.zero ms), HB0, HA0⟩
      case round =>
        obtain ⟨k, hk, rfl, HK, HB, HA⟩ := hrel
        have hbl := HA.out.1
        have q0 : wr.cell? ⟨w.heap.size, 0, none⟩ = some (.slice ma ml mc) := HA.out.2 0 (by simp)
        have q1 : wr.cell? ⟨w.heap.size, 1, none⟩ = some (.slice ca cl cc) := HA.out.2 1 (by simp)
        by_cases hlt : k < ml
        · have hlt2 : (k : Int) < (ml : Int) := by omega
          have hkl : k < ms.length := by have := HML.out; omega
          rcases HI.out.below HB.out with h | ⟨b, off, rfl, hbb, h⟩
          · omega
          have HP : Hid (∀ j, j + 1 = k → wr.cell? ⟨b, off + j * 6, none⟩ = some (.string (mN ms j))) := hid_intro (fun j hj => by
            obtain ⟨_, _, _, q, _⟩ := h j (by omega)
            exact q)
          obtain ⟨ta, tc, hv, c0, c1, c2, c3, c4, c5, _⟩ := h k hlt
          clear h
          have HMR := hid_intro (fun W (hW : Below w.heap.size w W) => spec_meter (V k) (ms.getD k Me.zero) W (HS2.out k hlt).1 (HS2.out k hlt).2 ((HI.out.below hW).is k hlt))
          have HWR := hid_intro (ms_wrong (ms := ms) hkl)
          have HFL := hid_intro (ms_flat (ms := ms) hkl)
          have HMO := hid_intro (fun (h1 : mB (ms.getD k Me.zero) = true) h2 => HK.out.more (mB_iff.1 h1) h2)
          rw [hv] at HMR
          generalize mB (ms.getD k Me.zero) = r at *
          generalize mN ms k = n at *
          generalize (ms.getD k Me.zero).ts.length = tl at *
          generalize (ms.getD k Me.zero).g = g at *
          generalize (ms.getD k Me.zero).wh = wh at *
          generalize (ms.getD k Me.zero).f = f at *
          generalize (ms.getD k Me.zero).l = l at *
          clear hv
          rcases (show k = 0 ∨ ∃ j, j + 1 = k from by rcases k with _ | j; exact .inl rfl; exact .inr ⟨j, rfl⟩) with rfl | ⟨j, hj⟩
          · have HMO0 := hid_intro (fun h => HMO.out h (fun h0 => absurd h0 (by omega)))
            simp only [Nat.zero_mul, Nat.add_zero] at c0 c1 c2 c3 c4 c5
            have HS0 : Hid ((BS w w.heap.size b (off) (off) (.slice (some ⟨b, off, none⟩) ml mc) (.slice ca cl cc) (.string n) (.int .i64 g) (.bool wh) (.int .i64 f) (.int .i64 l) (.slice ta tl tc) (.string n)) wr) := hid_intro ⟨HB.out, hbl, hbb, q0, q1, c0, c1, c2, c3, c4, c5, c0⟩
            obtain ⟨S, hS⟩ : ∃ S : World → Prop, ∀ W, S W ↔ (BS w w.heap.size b (off) (off) (.slice (some ⟨b, off, none⟩) ml mc) (.slice ca cl cc) (.string n) (.int .i64 g) (.bool wh) (.int .i64 f) (.int .i64 l) (.slice ta tl tc) (.string n)) W := ⟨_, fun _ => Iff.rfl⟩
            have HSC : Hid (∀ s : HW S, (BS w w.heap.size b (off) (off) (.slice (some ⟨b, off, none⟩) ml mc) (.slice ca cl cc) (.string n) (.int .i64 g) (.bool wh) (.int .i64 f) (.int .i64 l) (.slice ta tl tc) (.string n)) s.w) := hid_intro (fun s => (hS _).1 s.h)
            have HSB : Hid (∀ (s : HW S) w', Below s.w.heap.size s.w w' → S w') := hid_intro (fun s w' hb => (hS _).2 ((HSC.out s).below hb))
            have HSD : Hid (S wr.drew) := hid_intro ((hS _).2 HS0.out.drew)
            have hne : Nonempty (HW S) := ⟨⟨_, HSD.out⟩⟩
            have e0 : ∀ s : HW S, s.w.cell? ⟨w.heap.size, 0, none⟩ = some (.slice (some ⟨b, off, none⟩) ml mc) := fun s => (HSC.out s).2.2.2.1
            have f0 : ∀ s : HW S, s.w.cell? ⟨b, off, none⟩ = some (.string n) := fun s => (HSC.out s).2.2.2.2.2.1
            have f1 : ∀ s : HW S, s.w.cell? ⟨b, off + 1, none⟩ = some (.int .i64 g) := fun s => (HSC.out s).2.2.2.2.2.2.1
            have f2 : ∀ s : HW S, s.w.cell? ⟨b, off + 2, none⟩ = some (.bool wh) := fun s => (HSC.out s).2.2.2.2.2.2.2.1
            have f3 : ∀ s : HW S, s.w.cell? ⟨b, off + 3, none⟩ = some (.int .i64 f) := fun s => (HSC.out s).2.2.2.2.2.2.2.2.1
            have f4 : ∀ s : HW S, s.w.cell? ⟨b, off + 4, none⟩ = some (.int .i64 l) := fun s => (HSC.out s).2.2.2.2.2.2.2.2.2.1
            have f5 : ∀ s : HW S, s.w.cell? ⟨b, off + 5, none⟩ = some (.slice ta tl tc) := fun s => (HSC.out s).2.2.2.2.2.2.2.2.2.2.1
            have f6 : ∀ s : HW S, s.w.cell? ⟨b, off, none⟩ = some (.string n) := fun s => (HSC.out s).2.2.2.2.2.2.2.2.2.2.2
            clear hS
            clear f6
            cases r
            · have HR := hid_intro (HWR.out rfl)
              go_wp2_with fail
              refine wp_region_hw S (by kernel_rfl) (by kernel_rfl) HSD.out ?_
              repeat (go_big_quiet_step ((rename_i s; go_at_call 20; refine (HMR.out _ (HSC.out s).1).mono ?_; rintro e w1 ⟨rfl, hb1⟩; exact ⟨rfl, ⟨w1, HSB.out s w1 hb1⟩, rfl⟩)))
              refine wpQuiet_nil ?_
              intro _ hw'
              obtain ⟨s, hw''⟩ := hw'
              subst hw''
              have HBF := hid_intro (HSC.out s).1
              go_wp2_with fail
              go_ret
              exact ⟨ret_bool (by rw [HVV.out, HR.out]; rfl), HBF.out⟩
            · have HM := hid_intro (HMO0.out rfl)
              go_wp2_with fail
              refine wp_region_hw S (by kernel_rfl) (by kernel_rfl) HSD.out ?_
              repeat (go_big_quiet_step ((rename_i s; go_at_call 20; refine (HMR.out _ (HSC.out s).1).mono ?_; rintro e w1 ⟨rfl, hb1⟩; exact ⟨rfl, ⟨w1, HSB.out s w1 hb1⟩, rfl⟩)))
              refine wpQuiet_nil ?_
              intro _ hw'
              obtain ⟨s, hw''⟩ := hw'
              subst hw''
              have HBF := hid_intro (HSC.out s).1
              have HAF : Hid (Blk w.heap.size [.slice (some ⟨b, off, none⟩) ml mc, .slice ca cl cc] s.w) := hid_intro (blk2 (HSC.out s).2.1 (HSC.out s).2.2.2.1 (HSC.out s).2.2.2.2.1)
              go_wp2_with fail
              go_roundw
              case rel => exact ⟨0 + 1, by omega, by go_num, HM, HBF, HAF⟩
              case measure => simp [intOf]; omega
          · have p0 := HP.out j hj
            have hj1 : IntKind.i64.wrap ((k : Int) - 1) = (j : Int) := by rw [IntKind.wrap_i64]; omega
            have hj2 : 0 < k := by omega
            have hj3 : (j : Int) < (ml : Int) := by omega
            have ejk : k - 1 = j := by omega
            rw [ejk] at HFL HMO
            clear hj ejk
            generalize hpn : mN ms j = pn at *
            have HPN := hid_intro hpn
            clear hpn
            have HS0 : Hid ((BS w w.heap.size b (off + k * 6) (off + j * 6) (.slice (some ⟨b, off, none⟩) ml mc) (.slice ca cl cc) (.string n) (.int .i64 g) (.bool wh) (.int .i64 f) (.int .i64 l) (.slice ta tl tc) (.string pn)) wr) := hid_intro ⟨HB.out, hbl, hbb, q0, q1, c0, c1, c2, c3, c4, c5, p0⟩
            obtain ⟨S, hS⟩ : ∃ S : World → Prop, ∀ W, S W ↔ (BS w w.heap.size b (off + k * 6) (off + j * 6) (.slice (some ⟨b, off, none⟩) ml mc) (.slice ca cl cc) (.string n) (.int .i64 g) (.bool wh) (.int .i64 f) (.int .i64 l) (.slice ta tl tc) (.string pn)) W := ⟨_, fun _ => Iff.rfl⟩
            have HSC : Hid (∀ s : HW S, (BS w w.heap.size b (off + k * 6) (off + j * 6) (.slice (some ⟨b, off, none⟩) ml mc) (.slice ca cl cc) (.string n) (.int .i64 g) (.bool wh) (.int .i64 f) (.int .i64 l) (.slice ta tl tc) (.string pn)) s.w) := hid_intro (fun s => (hS _).1 s.h)
            have HSB : Hid (∀ (s : HW S) w', Below s.w.heap.size s.w w' → S w') := hid_intro (fun s w' hb => (hS _).2 ((HSC.out s).below hb))
            have HSD : Hid (S wr.drew) := hid_intro ((hS _).2 HS0.out.drew)
            have hne : Nonempty (HW S) := ⟨⟨_, HSD.out⟩⟩
            have e0 : ∀ s : HW S, s.w.cell? ⟨w.heap.size, 0, none⟩ = some (.slice (some ⟨b, off, none⟩) ml mc) := fun s => (HSC.out s).2.2.2.1
            have f0 : ∀ s : HW S, s.w.cell? ⟨b, off + k * 6, none⟩ = some (.string n) := fun s => (HSC.out s).2.2.2.2.2.1
            have f1 : ∀ s : HW S, s.w.cell? ⟨b, off + k * 6 + 1, none⟩ = some (.int .i64 g) := fun s => (HSC.out s).2.2.2.2.2.2.1
            have f2 : ∀ s : HW S, s.w.cell? ⟨b, off + k * 6 + 2, none⟩ = some (.bool wh) := fun s => (HSC.out s).2.2.2.2.2.2.2.1
            have f3 : ∀ s : HW S, s.w.cell? ⟨b, off + k * 6 + 3, none⟩ = some (.int .i64 f) := fun s => (HSC.out s).2.2.2.2.2.2.2.2.1
            have f4 : ∀ s : HW S, s.w.cell? ⟨b, off + k * 6 + 4, none⟩ = some (.int .i64 l) := fun s => (HSC.out s).2.2.2.2.2.2.2.2.2.1
            have f5 : ∀ s : HW S, s.w.cell? ⟨b, off + k * 6 + 5, none⟩ = some (.slice ta tl tc) := fun s => (HSC.out s).2.2.2.2.2.2.2.2.2.2.1
            have f6 : ∀ s : HW S, s.w.cell? ⟨b, off + j * 6, none⟩ = some (.string pn) := fun s => (HSC.out s).2.2.2.2.2.2.2.2.2.2.2
            clear hS
            cases r
            · have HR := hid_intro (HWR.out rfl)
              go_wp2_with fail
              refine wp_region_hw S (by kernel_rfl) (by kernel_rfl) HSD.out ?_
              repeat (go_big_quiet_step ((rename_i s; go_at_call 20; refine (HMR.out _ (HSC.out s).1).mono ?_; rintro e w1 ⟨rfl, hb1⟩; exact ⟨rfl, ⟨w1, HSB.out s w1 hb1⟩, rfl⟩)))
              refine wpQuiet_nil ?_
              intro _ hw'
              obtain ⟨s, hw''⟩ := hw'
              subst hw''
              have HBF := hid_intro (HSC.out s).1
              go_wp2_with fail
              go_ret
              exact ⟨ret_bool (by rw [HVV.out, HR.out]; rfl), HBF.out⟩
            · cases hfl : Op.bytesLess pn.toList n.toList
              · have HR := hid_intro (HFL.out hj2 hfl)
                go_wp2_with fail
                refine wp_region_hw S (by kernel_rfl) (by kernel_rfl) HSD.out ?_
                repeat (go_big_quiet_step ((rename_i s; go_at_call 20; refine (HMR.out _ (HSC.out s).1).mono ?_; rintro e w1 ⟨rfl, hb1⟩; exact ⟨rfl, ⟨w1, HSB.out s w1 hb1⟩, rfl⟩)))
                refine wpQuiet_nil ?_
                intro _ hw'
                obtain ⟨s, hw''⟩ := hw'
                subst hw''
                have HBF := hid_intro (HSC.out s).1
                go_wp2_with fail
                go_ret
                exact ⟨ret_bool (by rw [HVV.out, HR.out]; rfl), HBF.out⟩
              · have HM := hid_intro (HMO.out rfl (fun _ => hfl))
                go_wp2_with fail
                refine wp_region_hw S (by kernel_rfl) (by kernel_rfl) HSD.out ?_
                repeat (go_big_quiet_step ((rename_i s; go_at_call 20; refine (HMR.out _ (HSC.out s).1).mono ?_; rintro e w1 ⟨rfl, hb1⟩; exact ⟨rfl, ⟨w1, HSB.out s w1 hb1⟩, rfl⟩)))
                refine wpQuiet_nil ?_
                intro _ hw'
                obtain ⟨s, hw''⟩ := hw'
                subst hw''
                have HBF := hid_intro (HSC.out s).1
                have HAF : Hid (Blk w.heap.size [.slice (some ⟨b, off, none⟩) ml mc, .slice ca cl cc] s.w) := hid_intro (blk2 (HSC.out s).2.1 (HSC.out s).2.2.2.1 (HSC.out s).2.2.2.2.1)
                go_wp2_with fail
                go_roundw
                case rel => exact ⟨k + 1, by omega, by go_num, HM, HBF, HAF⟩
                case measure => simp [intOf]; omega
        · obtain rfl : k = ml := by omega
          have HMR : Hid (msB ms = true) := hid_intro (ms_end (by have := HML.out; omega) (by rw [HML.out]; exact HK.out))
          go_wp2_with fail
          go_loopw [4] (fun z wx => ∃ q : Nat, q ≤ cl ∧ z = .int .i64 q ∧ Hid (COk cs q) ∧ Hid (Below w.heap.size w wx) ∧ Hid (Blk w.heap.size [.slice ma k mc, .slice ca cl cc] wx)) (fun z _ => cl - (intOf z).toNat)
          case atStart => exact ⟨0, by omega, rfl, hid_intro (COk.zero cs), HB, HA⟩
          case round =>
            clear HK HB HA hbl q0 q1
            obtain ⟨q, hq, rfl, HK, HB, HA⟩ := hrel
            have hbl := HA.out.1
            have q0 : wr.cell? ⟨w.heap.size, 0, none⟩ = some (.slice ma k mc) := HA.out.2 0 (by simp)
            have q1 : wr.cell? ⟨w.heap.size, 1, none⟩ = some (.slice ca cl cc) := HA.out.2 1 (by simp)
            by_cases hlt : q < cl
            · have hlt2 : (q : Int) < (cl : Int) := by omega
              have hkl : q < cs.length := by have := HCL.out; omega
              obtain ⟨b, off, rfl, hbb, d0, d1⟩ := crs_at (HJ.out.below HB.out) q hlt
              have c0 : wr.cell? ⟨b, off + q * 2, none⟩ = some (.string (cA cs q)) := d0
              have c1 : wr.cell? ⟨b, off + q * 2 + 1, none⟩ = some (.int .i64 (cM cs q)) := d1
              have HP : Hid (∀ j, j + 1 = q → wr.cell? ⟨b, off + j * 2, none⟩ = some (.string (cA cs j))) := hid_intro (fun j hj => by
                obtain ⟨b', off', hbo, _, e0, _⟩ := crs_at (HJ.out.below HB.out) j (by omega)
                obtain ⟨rfl, rfl⟩ : b = b' ∧ off = off' := by simpa using hbo
                exact e0)
              clear d0 d1
              have hsz : (cA cs q).size ≤ 1048576 := HS4.out q hlt
              have HN := hid_intro (fun w => NameR.spec_any (cA cs q) w hsz)
              have HW := hid_intro (fun w => isS (cM cs q) 0 1000000000000 w)
              have HNA := hid_intro (cs_name hkl)
              have HMI := hid_intro (cs_micro hkl)
              have HFL := hid_intro (cs_flat (cs := cs) hkl)
              have HMO := hid_intro (fun h1 h3 h2 => HK.out.more (k := q) h1 h3 h2)
              generalize NameR.nameB (cA cs q) = r at *
              generalize cA cs q = a at *
              generalize cM cs q = m at *
              have HAl := hid_intro (fun o => HB.out.alloc HB.out.size o)
              have HBl := hid_intro (fun o => HA.out.alloc o)
              clear hsz
              rcases (show q = 0 ∨ ∃ j, j + 1 = q from by rcases q with _ | j; exact .inl rfl; exact .inr ⟨j, rfl⟩) with rfl | ⟨j, hj⟩
              · simp only [Nat.zero_mul, Nat.add_zero] at c0 c1
                cases r
                · have HR := hid_intro (HNA.out rfl)
                  go_wp2_with fail
                  go_quiet ((first | (go_at_call 50; exact Calls.quiet_of_same (HN.out _)) | (go_at_call 51; exact Calls.quiet_of_same (HW.out _))))
                  go_wp2_with fail
                  go_ret
                  exact ⟨ret_bool (by rw [HVV.out, HR.out]; simp), bdrewN (HAl.out _) _⟩
                · by_cases hm : 0 ≤ m ∧ m ≤ 1000000000000
                  · have HM := hid_intro (HMO.out rfl hm (fun h => absurd h (by omega)))
                    rw [decide_eq_true hm] at HW
                    go_wp2_with fail
                    go_quiet ((first | (go_at_call 50; exact Calls.quiet_of_same (HN.out _)) | (go_at_call 51; exact Calls.quiet_of_same (HW.out _))))
                    go_wp2_with fail
                    go_roundw
                    case rel => exact ⟨0 + 1, by omega, by go_num, HM, hid_intro (bdrewN (HAl.out _) _), hid_intro ((HBl.out _).drewN _)⟩
                    case measure => simp [intOf]; omega
                  · have HR := hid_intro (HMI.out hm)
                    rw [decide_eq_false hm] at HW
                    go_wp2_with fail
                    go_quiet ((first | (go_at_call 50; exact Calls.quiet_of_same (HN.out _)) | (go_at_call 51; exact Calls.quiet_of_same (HW.out _))))
                    go_wp2_with fail
                    go_ret
                    exact ⟨ret_bool (by rw [HVV.out, HR.out]; simp), bdrewN (HAl.out _) _⟩
              · have p0 := HP.out j hj
                have hj1 : IntKind.i64.wrap ((q : Int) - 1) = (j : Int) := by rw [IntKind.wrap_i64]; omega
                have hj2 : 0 < q := by omega
                have hj3 : (j : Int) < (cl : Int) := by omega
                have ejk : q - 1 = j := by omega
                rw [ejk] at HFL HMO
                clear hj ejk
                generalize cA cs j = p at *
                cases r
                · have HR := hid_intro (HNA.out rfl)
                  go_wp2_with fail
                  go_quiet ((first | (go_at_call 50; exact Calls.quiet_of_same (HN.out _)) | (go_at_call 51; exact Calls.quiet_of_same (HW.out _))))
                  go_wp2_with fail
                  go_ret
                  exact ⟨ret_bool (by rw [HVV.out, HR.out]; simp), bdrewN (HAl.out _) _⟩
                · cases hfl : Op.bytesLess p.toList a.toList
                  · have HR := hid_intro (HFL.out hj2 hfl)
                    go_wp2_with fail
                    go_quiet ((first | (go_at_call 50; exact Calls.quiet_of_same (HN.out _)) | (go_at_call 51; exact Calls.quiet_of_same (HW.out _))))
                    go_wp2_with fail
                    go_ret
                    exact ⟨ret_bool (by rw [HVV.out, HR.out]; simp), bdrewN (HAl.out _) _⟩
                  · by_cases hm : 0 ≤ m ∧ m ≤ 1000000000000
                    · have HM := hid_intro (HMO.out rfl hm (fun _ => hfl))
                      rw [decide_eq_true hm] at HW
                      go_wp2_with fail
                      go_quiet ((first | (go_at_call 50; exact Calls.quiet_of_same (HN.out _)) | (go_at_call 51; exact Calls.quiet_of_same (HW.out _))))
                      go_wp2_with fail
                      go_roundw
                      case rel => exact ⟨q + 1, by omega, by go_num, HM, hid_intro (bdrewN (HAl.out _) _), hid_intro ((HBl.out _).drewN _)⟩
                      case measure => simp [intOf]; omega
                    · have HR := hid_intro (HMI.out hm)
                      rw [decide_eq_false hm] at HW
                      go_wp2_with fail
                      go_quiet ((first | (go_at_call 50; exact Calls.quiet_of_same (HN.out _)) | (go_at_call 51; exact Calls.quiet_of_same (HW.out _))))
                      go_wp2_with fail
                      go_ret
                      exact ⟨ret_bool (by rw [HVV.out, HR.out]; simp), bdrewN (HAl.out _) _⟩
            · obtain rfl : q = cl := by omega
              have HR : Hid (csB cs = true) := hid_intro (cs_end (by have := HCL.out; omega) (by rw [HCL.out]; exact HK.out))
              go_wp2_with fail
              go_ret
              exact ⟨ret_bool (by rw [HVV.out, HMR.out, HR.out]; rfl), HB.out⟩
end CatR
end Go.Proofs.YtaedolophhcjjaaDoor
namespace Go.Proofs.YtaedolophhcjjaaDoor
open Go.ChangeShapes Go.WideShapes Go.ChangeAt Go.RowKit
set_option linter.unusedVariables false
namespace CatR
/-- The credit of the first of that account, 0 if there is none. -/
def crF (t : ByteArray) : List Cr → Int
  | [] => 0
  | c :: cs => if c.a = t then c.m else crF t cs
theorem crF_hit (t : ByteArray) : ∀ (cs : List Cr) (k : Nat), k < cs.length → (∀ i, i < k → cA cs i ≠ t) → cA cs k = t → crF t cs = cM cs k
  | [], k, h, _, _ => absurd h (by simp)
  | c :: cs, 0, _, _, h => by
    rw [crF, if_pos (show c.a = t from h)]; rfl
  | c :: cs, k + 1, hk, hn, h => by
    rw [crF, if_neg (show ¬ c.a = t from hn 0 (by omega))]
    exact crF_hit t cs k (by simpa using hk) (fun i hi => hn (i + 1) (by omega)) h
theorem crF_none (t : ByteArray) : ∀ (cs : List Cr), (∀ i, i < cs.length → cA cs i ≠ t) → crF t cs = 0
  | [], _ => rfl
  | c :: cs, hn => by
    rw [crF, if_neg (show ¬ c.a = t from hn 0 (by simp))]
    exact crF_none t cs (fun i hi => hn (i + 1) (by simpa using hi))
def crO (c : Ca) (t : ByteArray) : Int := if caB c = true then crF t c.cs else 0
theorem name_le {s : ByteArray} (h : NameR.nameB s = true) : 1 ≤ s.size ∧ s.size ≤ 20 := by
  rcases Nat.lt_or_ge s.size 1 with h1 | h1
  · rw [NameR.name_size (.inl h1)] at h; cases h
  · rcases Nat.lt_or_ge 20 s.size with h2 | h2
    · rw [NameR.name_size (.inr h2)] at h; cases h
    · exact ⟨h1, h2⟩
theorem caB_iff {c : Ca} : caB c = true ↔ MsRight c.ms ∧ CsRight c.cs := by
  unfold caB
  rw [Bool.and_eq_true, msB_iff, csB_iff]
theorem crO_long (c : Ca) (t : ByteArray) (ht : 20 < t.size) : crO c t = 0 := by
  unfold crO
  by_cases h : caB c = true
  · rw [if_pos h]
    refine crF_none t c.cs (fun i hi e => ?_)
    have := name_le (((caB_iff.1 h).2.2 i hi).1.1)
    rw [e] at this
    omega
  · rw [if_neg h]
theorem beq_no {a t : ByteArray} (h : a ≠ t) : (a.toList == t.toList) = false := by
  cases e : a.toList == t.toList
  · rfl
  · exact absurd (toList_inj (beq_iff_eq.1 e)) h
theorem nohit_more {cs : List Cr} {t : ByteArray} {k : Nat} (h : ∀ i, i < k → cA cs i ≠ t) (hk : cA cs k ≠ t) : ∀ i, i < k + 1 → cA cs i ≠ t := fun i hi => by
  by_cases e : i = k
  · subst e; exact hk
  · exact h i (by omega)
set_option maxRecDepth 100000 in
set_option maxHeartbeats 4000000 in
theorem impl_cr (v : Value) (c : Ca) (t : ByteArray) (w : World) (hS : c.Small) (hC : IsCa v c w) (hL : Laid w) :
    Calls Tryd.prog 17 #[v, .string t] w fun e w' => e = .returned (.int .i64 (crO c t)) ∧ Below w.heap.size w w' := by
  have HR0 : Hid (∀ W, Below w.heap.size w W → Calls Tryd.prog 21 #[v] W fun e w' => e = .returned (.bool (caB c)) ∧ Below W.heap.size W w') := hid_intro (fun W hW => impl_ca v c W hS (hC.below hW) (hL.below hW))
  obtain ⟨ma, mc, ca, cc, rfl, hM, hR⟩ := hC
  obtain ⟨ms, cs⟩ := c
  have s3 := hS.cl
  simp only at *
  have HO : Hid (crO ⟨ms, cs⟩ t = if caB ⟨ms, cs⟩ = true then crF t cs else 0) := rfl
  have HJ := hid_intro hR
  have HZ : Hid (cs.length = cs.length) := rfl
  clear hM hR hS hL
  generalize caB ⟨ms, cs⟩ = r at *
  generalize crO ⟨ms, cs⟩ t = R at *
  generalize ms.length = ml at *
  generalize hcl : cs.length = cl at *
  have HCL := hid_intro hcl
  clear hcl HZ
  have HB : Hid (Below w.heap.size w (w.alloc (.cells #[.slice ma ml mc, .slice ca cl cc] 26))) := hid_intro ((Below.refl _ _).alloc (Nat.le_refl _) _)
  have HA : Hid (Blk w.heap.size [.slice ma ml mc, .slice ca cl cc] (w.alloc (.cells #[.slice ma ml mc, .slice ca cl cc] 26))) := hid_intro (Blk.new w _ _)
  go_enter Tryd.func17, Tryd.ntmps17
  go_wp2_with fail
  refine (HR0.out _ HB.out).mono ?_
  rintro e w1 ⟨rfl, hb1⟩
  have HB1 := hid_intro (HB.out.trans (hb1.mono HB.out.size))
  have HA1 := hid_intro (HA.out.below hb1)
  have hl1 := HA1.out.1
  have q1 : w1.cell? ⟨w.heap.size, 1, none⟩ = some (.slice ca cl cc) := HA1.out.2 1 (by simp)
  clear hb1
  cases r
  · go_wp2_with fail
    go_ret
    exact ⟨ret_int (by rw [HO.out]; rfl), HB1.out⟩
  · go_wp2_with fail
    go_loopw [13] (fun z wr => ∃ k : Nat, k ≤ cl ∧ z = .int .i64 k ∧ Hid (∀ i, i < k → cA cs i ≠ t) ∧ Hid (Below w.heap.size w wr)) (fun z _ => cl - (intOf z).toNat)
    case atStart => exact ⟨0, by omega, rfl, hid_intro (fun i hi => absurd hi (by omega)), HB1⟩
    case round =>
      clear HB HA HB1 HA1 q1 hl1
      obtain ⟨k, hk, rfl, HN, HB⟩ := hrel
      by_cases hlt : k < cl
      · have hlt2 : (k : Int) < (cl : Int) := by omega
        obtain ⟨b, off, rfl, hbl, d0, d1⟩ := crs_at (HJ.out.below HB.out) k hlt
        have c0 : wr.cell? ⟨b, off + k * 2, none⟩ = some (.string (cA cs k)) := d0
        have c1 : wr.cell? ⟨b, off + k * 2 + 1, none⟩ = some (.int .i64 (cM cs k)) := d1
        clear d0 d1
        have HAl := hid_intro (fun o => HB.out.alloc HB.out.size o)
        by_cases e : cA cs k = t
        · have HV : Hid (R = cM cs k) := hid_intro (by rw [HO.out]; (first | rw [if_pos rfl] | rw [if_pos trivial]); exact crF_hit t cs k (by have := HCL.out; omega) HN.out e)
          generalize cM cs k = m at *
          rw [e] at c0
          go_wp2_with fail
          go_ret
          exact ⟨ret_int HV.out.symm, HAl.out _⟩
        · have HM := hid_intro (nohit_more HN.out e)
          have he := beq_no e
          generalize cA cs k = a at *
          generalize cM cs k = m at *
          clear e
          go_wp2_with fail
          go_roundw
          case rel => exact ⟨k + 1, by omega, by go_num, HM, hid_intro (HAl.out _)⟩
          case measure => simp [intOf]; omega
      · obtain rfl : k = cl := by omega
        have HV : Hid (R = 0) := hid_intro (by rw [HO.out]; (first | rw [if_pos rfl] | rw [if_pos trivial]); exact crF_none t cs (by rw [HCL.out]; exact HN.out))
        go_wp2_with fail
        go_ret
        exact ⟨ret_int HV.out.symm, HB.out⟩
set_option maxRecDepth 100000 in
set_option maxHeartbeats 4000000 in
theorem spec_cr0 (v : Value) (c : Ca) (t : ByteArray) (w : World) (hS : c.Small) (hC : IsCa v c w) :
    Calls Tryd.prog 46 #[v, .string t] w fun e w' => e = .returned (.int .i64 (crF t c.cs)) ∧ Below w.heap.size w w' := by
  obtain ⟨ma, mc, ca, cc, rfl, hM, hR⟩ := hC
  obtain ⟨ms, cs⟩ := c
  have s3 := hS.cl
  simp only at *
  have HO : Hid (crF t cs = crF t cs) := rfl
  have HJ := hid_intro hR
  have HH := hid_intro (fun k => crF_hit t cs k)
  have HE := hid_intro (crF_none t cs)
  clear hM hR hS
  generalize crF t cs = R at *
  generalize ms.length = ml at *
  generalize hcl : cs.length = cl at *
  have HCL := hid_intro hcl
  clear hcl HO
  have HB : Hid (Below w.heap.size w (w.alloc (.cells #[.slice ma ml mc, .slice ca cl cc] 26))) := hid_intro ((Below.refl _ _).alloc (Nat.le_refl _) _)
  have HA : Hid (Blk w.heap.size [.slice ma ml mc, .slice ca cl cc] (w.alloc (.cells #[.slice ma ml mc, .slice ca cl cc] 26))) := hid_intro (Blk.new w _ _)
  go_enter Tryd.func46, Tryd.ntmps46
  go_wp2_with fail
  go_loopw [5] (fun z wr => ∃ k : Nat, k ≤ cl ∧ z = .int .i64 k ∧ Hid (∀ i, i < k → cA cs i ≠ t) ∧ Hid (Below w.heap.size w wr) ∧ Hid (Blk w.heap.size [.slice ma ml mc, .slice ca cl cc] wr)) (fun z _ => cl - (intOf z).toNat)
  case atStart => exact ⟨0, by omega, rfl, hid_intro (fun i hi => absurd hi (by omega)), HB, HA⟩
  case round =>
    clear HB HA
    obtain ⟨k, hk, rfl, HN, HB, HA⟩ := hrel
    have hl1 := HA.out.1
    have q1 : wr.cell? ⟨w.heap.size, 1, none⟩ = some (.slice ca cl cc) := HA.out.2 1 (by simp)
    by_cases hlt : k < cl
    · have hlt2 : (k : Int) < (cl : Int) := by omega
      obtain ⟨b, off, rfl, hbl, d0, d1⟩ := crs_at (HJ.out.below HB.out) k hlt
      have c0 : wr.cell? ⟨b, off + k * 2, none⟩ = some (.string (cA cs k)) := d0
      have c1 : wr.cell? ⟨b, off + k * 2 + 1, none⟩ = some (.int .i64 (cM cs k)) := d1
      clear d0 d1
      by_cases e : cA cs k = t
      · have HV : Hid (R = cM cs k) := hid_intro (HH.out k (by have := HCL.out; omega) HN.out e)
        generalize cM cs k = m at *
        rw [e] at c0
        go_wp2_with fail
        try (go_quiet (fail); go_wp2_with fail)
        go_ret
        exact ⟨ret_int HV.out.symm, by first | exact HB.out | exact bdrewN HB.out _⟩
      · have HM := hid_intro (nohit_more HN.out e)
        have he := beq_no e
        generalize cA cs k = a at *
        generalize cM cs k = m at *
        clear e
        go_wp2_with fail
        try (go_quiet (fail); go_wp2_with fail)
        go_roundw
        case rel => exact ⟨k + 1, by omega, by go_num, HM, by first | exact HB | exact hid_intro (bdrewN HB.out _), by first | exact HA | exact hid_intro (HA.out.drewN _)⟩
        case measure => simp [intOf]; omega
    · obtain rfl : k = cl := by omega
      have HV : Hid (R = 0) := hid_intro (HE.out HN.out)
      go_wp2_with fail
      go_ret
      exact ⟨ret_int HV.out.symm, HB.out⟩
set_option maxHeartbeats 4000000 in
theorem spec_cr (v : Value) (c : Ca) (t : ByteArray) (w : World) (ht : t.size ≤ 1048576) (hS : c.Small) (hC : IsCa v c w) :
    Calls Tryd.prog 18 #[v, .string t] w fun e w' => e = .returned (.int .i64 (crO c t)) ∧ Below w.heap.size w w' := by
  have HR0 : Hid (∀ W, Below w.heap.size w W → Calls Tryd.prog 22 #[v] W fun e w' => e = .returned (.bool (caB c)) ∧ Below W.heap.size W w') := hid_intro (fun W hW => spec_ca v c W hS (hC.below hW))
  have HC0 : Hid (∀ W, Below w.heap.size w W → Calls Tryd.prog 46 #[v, .string t] W fun e w' => e = .returned (.int .i64 (crF t c.cs)) ∧ Below W.heap.size W w') := hid_intro (fun W hW => spec_cr0 v c t W hS (hC.below hW))
  have HO : Hid (crO c t = if caB c = true then crF t c.cs else 0) := rfl
  have HLO := hid_intro (crO_long c t)
  obtain ⟨ma, mc, ca, cc, rfl, hM, hR⟩ := hC
  clear hM hR hS
  generalize caB c = r at *
  generalize crO c t = R at *
  generalize crF t c.cs = R1 at *
  generalize c.ms.length = ml at *
  generalize c.cs.length = cl at *
  by_cases h8 : 8000 < t.size
  · have h8' : (8000 : Int) < (t.size : Int) := by omega
    have HV := hid_intro (HLO.out (by omega))
    go_enter Tryd.func18, Tryd.ntmps18
    go_wp2_with fail
    go_ret
    exact ⟨ret_int HV.out.symm, by first | exact Below.refl _ _ | exact (Below.refl _ _).alloc (Nat.le_refl _) _⟩
  · have h8' : ¬ (8000 : Int) < (t.size : Int) := by omega
    cases r
    · go_enter Tryd.func18, Tryd.ntmps18
      go_wp2_with (go_at_call 22; refine (HR0.out _ (by first | exact Below.refl _ _ | exact (Below.refl _ _).alloc (Nat.le_refl _) _)).mono ?_; rintro e w1 ⟨rfl, hb1⟩)
      go_ret
      exact ⟨ret_int (by rw [HO.out]; rfl), by first | exact hb1 | exact bel_alloc hb1⟩
    · have HB : Hid (Below w.heap.size w (w.alloc (.cells #[.slice ma ml mc, .slice ca cl cc] 26))) := hid_intro ((Below.refl _ _).alloc (Nat.le_refl _) _)
      have HA : Hid (Blk w.heap.size [.slice ma ml mc, .slice ca cl cc] (w.alloc (.cells #[.slice ma ml mc, .slice ca cl cc] 26))) := hid_intro (Blk.new w _ _)
      go_enter Tryd.func18, Tryd.ntmps18
      go_wp2_with fail
      refine (HR0.out _ HB.out).mono ?_
      rintro e w1 ⟨rfl, hb1⟩
      have HB1 := hid_intro (HB.out.trans (hb1.mono HB.out.size))
      have HA1 := hid_intro (HA.out.below hb1)
      have hl1 := HA1.out.1
      have q0 : w1.cell? ⟨w.heap.size, 0, none⟩ = some (.slice ma ml mc) := HA1.out.2 0 (by simp)
      have q1 : w1.cell? ⟨w.heap.size, 1, none⟩ = some (.slice ca cl cc) := HA1.out.2 1 (by simp)
      clear hb1
      go_wp2_with fail
      refine (HC0.out _ HB1.out).mono ?_
      rintro e w2 ⟨rfl, hb2⟩
      have HB2 := hid_intro (HB1.out.trans (hb2.mono HB1.out.size))
      clear hb2
      go_wp2_with fail
      go_ret
      exact ⟨ret_int (by rw [HO.out]; rfl), HB2.out⟩
end CatR
end Go.Proofs.YtaedolophhcjjaaDoor
namespace Go.Proofs.YtaedolophhcjjaaDoor
open Go.RowKit
set_option linter.unusedVariables false
namespace CatR
open NumR (numB numB_size)
open JoinR (joinB jl)
def txB (t : ByteArray) : ByteArray := numB t.size ++ t
def fl (b : Bool) : Int := if b = true then 1 else 0
def tiP (t : Ti) : List ByteArray := [numB t.u, numB t.p]
def meH (m : Me) : List ByteArray := [txB m.n, numB m.g, numB (fl m.wh), numB m.f, numB m.l, numB m.ts.length]
def meP (m : Me) : List ByteArray := meH m ++ m.ts.flatMap tiP
def meBy (m : Me) : ByteArray := joinB (meP m)
def crP (x : Cr) : List ByteArray := [txB x.a, numB x.m]
def caP (c : Ca) : List ByteArray := (([numB c.ms.length] ++ c.ms.map meBy) ++ [numB c.cs.length]) ++ c.cs.flatMap crP
def caBy (c : Ca) : ByteArray := if caB c = true then joinB (caP c) else ⟨#[]⟩
theorem joinB_app (a b : List ByteArray) : joinB (a ++ b) = joinB a ++ joinB b := by
  apply ByteArray.ext
  simp [joinB]
theorem joinB_nil : joinB [] = ⟨#[]⟩ := rfl
theorem joinB_one (x : ByteArray) : joinB [x] = x := by
  apply ByteArray.ext
  simp [joinB]
theorem joinB_two (x y : ByteArray) : joinB [x, y] = x ++ y := by
  apply ByteArray.ext
  simp [joinB]
theorem jl_size (l : List ByteArray) : (jl l l.length).length = (joinB l).size := by
  rw [JoinR.jl_all]
  show _ = (List.toArray _).size
  rw [List.size_toArray]
theorem take_flat {α : Type} (l : List α) (f : α → List ByteArray) (d : α) (k : Nat) (h : k < l.length) : (l.take (k + 1)).flatMap f = (l.take k).flatMap f ++ f (l.getD k d) := by
  rw [List.take_add_one, List.getElem?_eq_getElem h, List.flatMap_append]
  simp [List.getD, h]
theorem take_map {α : Type} (l : List α) (f : α → ByteArray) (d : α) (k : Nat) (h : k < l.length) : (l.take (k + 1)).map f = (l.take k).map f ++ [f (l.getD k d)] := by
  rw [List.take_add_one, List.getElem?_eq_getElem h, List.map_append]
  simp [List.getD, h]
theorem join_size_le (K : Nat) : ∀ l : List ByteArray, (∀ x ∈ l, x.size ≤ K) → (joinB l).size ≤ l.length * K
  | [], _ => by show 0 ≤ _; exact Nat.zero_le _
  | x :: l, h => by
    have h1 := join_size_le K l (fun y hy => h y (List.mem_cons_of_mem _ hy))
    have h2 := h x (List.mem_cons_self ..)
    have e : joinB (x :: l) = x ++ joinB l := by
      have := joinB_app [x] l
      rw [joinB_one] at this
      exact this
    rw [e, ByteArray.size_append, List.length_cons, Nat.add_mul]
    omega
theorem num_le {n : Int} (h0 : 0 ≤ n) (h1 : n ≤ 1000000000000) : (numB n).size ≤ 40 := by
  have := numB_size (n := n) (by omega)
  omega
theorem txt_le {t : ByteArray} (h : t.size ≤ 20) : (txB t).size ≤ 40 := by
  unfold txB
  have := numB_size (n := (t.size : Int)) (by omega)
  rw [ByteArray.size_append]
  omega
theorem fl_bd (b : Bool) : 0 ≤ fl b ∧ fl b ≤ 1 := by cases b <;> decide
/-- What is known of a right meter, in numbers. -/
theorem mright_bd {m : Me} (h : MRight m) : (m.n.size ≤ 20 ∧ m.ts.length ≤ 5) ∧ (0 ≤ m.g ∧ m.g ≤ 4) ∧ (0 ≤ m.f ∧ m.f ≤ 1000000000) ∧ (0 ≤ m.l ∧ m.l ≤ 1000000000000) ∧ ∀ i, i < m.ts.length → (0 ≤ tU m.ts i ∧ tU m.ts i ≤ 1000000000000) ∧ 0 ≤ tP m.ts i ∧ tP m.ts i ≤ 1000000 := by
  obtain ⟨h1, h2, h3, h4, h5⟩ := h
  refine ⟨⟨(name_le h1).2, h5.2.1⟩, ⟨by omega, h2.2⟩, h3, h4, fun i hi => ?_⟩
  have a := h5.upto i hi
  have b := h5.2.2.1 i hi
  exact ⟨⟨by omega, a.2⟩, b.2⟩
theorem meH_size {m : Me} (h : MRight m) : ∀ x ∈ meH m, x.size ≤ 40 := by
  obtain ⟨⟨b0, b1⟩, b2, b3, b4, b5⟩ := mright_bd h
  have f := fl_bd m.wh
  intro x hx
  simp only [meH, List.mem_cons, List.not_mem_nil, or_false] at hx
  rcases hx with rfl | rfl | rfl | rfl | rfl | rfl
  · exact txt_le b0
  · exact num_le b2.1 (by omega)
  · exact num_le f.1 (by omega)
  · exact num_le b3.1 (by omega)
  · exact num_le b4.1 b4.2
  · exact num_le (by omega) (by omega)
theorem meT_size {m : Me} (h : MRight m) (k : Nat) : ∀ x ∈ (m.ts.take k).flatMap tiP, x.size ≤ 40 := by
  obtain ⟨_, _, _, _, b5⟩ := mright_bd h
  intro x hx
  rw [List.mem_flatMap] at hx
  obtain ⟨t, ht, hx⟩ := hx
  obtain ⟨i, hi, rfl⟩ := List.getElem_of_mem (List.mem_of_mem_take ht)
  have e : m.ts.getD i Ti.zero = m.ts[i] := by simp [List.getD, hi]
  obtain ⟨a, b⟩ := b5 i hi
  unfold tU at a
  unfold tP at b
  rw [e] at a b
  simp only [tiP, List.mem_cons, List.not_mem_nil, or_false] at hx
  rcases hx with rfl | rfl
  · exact num_le a.1 a.2
  · exact num_le b.1 (by omega)
theorem ti_len (l : List Ti) : (l.flatMap tiP).length = 2 * l.length := by
  induction l with
  | nil => rfl
  | cons t l ih => simp [tiP, ih]; omega
theorem cr_len (l : List Cr) : (l.flatMap crP).length = 2 * l.length := by
  induction l with
  | nil => rfl
  | cons t l ih => simp [crP, ih]; omega
theorem mePk_size {m : Me} (h : MRight m) (k : Nat) : (joinB (meH m ++ (m.ts.take k).flatMap tiP)).size ≤ 640 := by
  have h1 := join_size_le 40 (meH m ++ (m.ts.take k).flatMap tiP) (fun x hx => by
    rw [List.mem_append] at hx
    rcases hx with hx | hx
    · exact meH_size h x hx
    · exact meT_size h k x hx)
  rw [List.length_append, ti_len] at h1
  have h2 := (mright_bd h).1.2
  have h3 : (m.ts.take k).length ≤ 5 := by rw [List.length_take]; omega
  have h4 : (meH m).length = 6 := rfl
  rw [h4] at h1
  omega
theorem meBy_size {m : Me} (h : MRight m) : (meBy m).size ≤ 640 := by
  have := mePk_size h m.ts.length
  rw [List.take_of_length_le (Nat.le_refl _)] at this
  exact this
end CatR
end Go.Proofs.YtaedolophhcjjaaDoor
namespace Go.Proofs.YtaedolophhcjjaaDoor
open Go.ChangeShapes Go.WideShapes Go.ChangeAt Go.RowKit
set_option linter.unusedVariables false
namespace CatR
open NumR (numB numB_size)
open JoinR (joinB jl)
theorem infoS : (Tryd.prog.info? 9).map (fun i => (i.zero, i.size, i.bytes)) = some (some (.string ⟨#[]⟩), 1, 16) := by kernel_rfl
theorem own_below {w w' : World} {base e size n : Nat} {v : Value} {xs : List Value} (h : w.ownsRow base e size v n xs) (hb : Below w.heap.size w w') : w'.ownsRow base e size v n xs := by
  refine ⟨h.1, ?_⟩
  rcases h.2 with hn | ⟨g, cap, cur, rfl, h1, hg, rest⟩
  · exact .inl hn
  · exact .inr ⟨g, cap, cur, rfl, h1, (hb.block g (Array.getElem?_eq_some_iff.1 hg).1).trans hg, rest⟩
theorem own_drew {w : World} {base e size n : Nat} {v : Value} {xs : List Value} (h : w.ownsRow base e size v n xs) : w.drew.ownsRow base e size v n xs := h
theorem own_texts {w : World} {base n : Nat} {v : Value} {xs : List ByteArray} (h : w.ownsRow base 9 1 v n (xs.map Value.string)) (hne : v ≠ .slice none 0 0) :
    ∃ g cap, v = .slice (some ⟨g, 0, none⟩) n cap ∧ g < w.heap.size ∧ xs.length = n ∧ n ≤ cap ∧ ∀ k (hk : k < xs.length), w.cell? ⟨g, k, none⟩ = some (.string xs[k]) := by
  have hl := h.1
  have hlen : xs.length = n := by simpa using hl
  rcases h.2 with ⟨h0, _⟩ | ⟨g, cap, cur, hv, _, _, hc, _⟩
  · exact absurd h0 hne
  · refine ⟨g, cap, hv, (h.lt g (by rw [hv]; rfl)).2, hlen, hc, fun k hk => ?_⟩
    have := h.cells (g := g) (by rw [hv]; rfl) k (.string xs[k]) (by simp [List.getElem?_map, List.getElem?_eq_getElem hk])
    rw [← this]
    congr 1
    unfold Addr.add; split <;> simp_all
theorem flag_any (b : Bool) (w : World) : Calls Tryd.prog 57 #[.bool b] w fun e w' => e = .returned (.int .i64 (fl b)) ∧ w' = w := by
  cases b
  all_goals
    go_enter Tryd.func57, Tryd.ntmps57
    go_wp2
    go_ret
    exact ⟨rfl, rfl⟩
/-- append to a list of one's own, as one step of a region that draws. -/
theorem step_append_own {P : Program} {w : World} {ops : Array Oper} {o : Oper} {a : Act} {K : Act → World → Prop} {Q : Exit → Act → World → Prop} {E : Prop} (hgd : o.guard = none) (s x : Operand) (t : TypeId)
    (ho : o.op = .call { callee := .builtin .append, args := #[s, x], argTypes := #[t, t] })
    (base : Nat) (e : TypeId) (i : TypeInfo) (z : Value) (size bytes : Nat) (ht : P.underlying t = some (.slice e)) (hi : P.info? e = some i) (hz : i.zero = some z)
    (hsize : i.size = size) (hby : i.bytes = bytes) (hzs : z.cells.size = size) (hsz : 0 < size)
    (v : Value) (n : Nat) (xs : List Value) (hs : a.eval s = v) (hown : w.ownsRow base e size v n xs)
    (ad : Addr) (m c : Nat) (news : List Value) (hx : a.eval x = .slice (some ad) m c) (hl : news.length = m * size) (hnews : ∀ j u, news[j]? = some u → w.cell? (ad.add j) = some u) (h1 : ∀ u ∈ news, u.oneCell' = true)
    (h63 : n + m ≤ maxLen) (hbytes : (n + m) * bytes ≤ 140737488355328) (hbase : base ≤ w.heap.size)
    (h : ∀ v' w', w'.ownsRow base e size v' (n + m) (xs ++ news) → w.grownBy w' v.ownBlock → (v' = .slice none 0 0 ↔ v = .slice none 0 0 ∧ m = 0) → K (a.put o.dst v') w') : if Region.wanted o (yielded ops a.tmps) = true then Oper.wp P o a w K Q else E := by
  have hw : Region.wanted o (yielded ops a.tmps) = true := by simp [Region.wanted, hgd]
  rw [if_pos hw]
  exact wp_append_own w s x t ho base e i z size bytes ht hi hz hsize hby hzs hsz v n xs hs hown ad m c news hx hl hnews h1 h63 hbytes hbase h
theorem own_base {w : World} {base e size n : Nat} {v : Value} {xs : List Value} (h : w.ownsRow base e size v n xs) (hv : v ≠ .slice none 0 0) : base ≤ w.heap.size := by
  rcases h.2 with ⟨h0, _⟩ | ⟨g, cap, cur, h1, h2, hg, _⟩
  · exact absurd h0 hv
  · have := (Array.getElem?_eq_some_iff.1 hg).1
    omega
theorem two_cells (w : World) (x y : ByteArray) (T : TypeId) : ∀ j u, [Value.string x, Value.string y][j]? = some u → (w.alloc (.cells #[.string x, .string y] T)).cell? ((⟨w.heap.size, 0, none⟩ : Addr).add j) = some u := by
  intro j u hj
  match j, hj with
  | 0, hj => simp at hj; subst hj; simp [Addr.add]
  | 1, hj => simp at hj; subst hj; simp [Addr.add, go_sem]
theorem two_one (x y : ByteArray) : ∀ u ∈ [Value.string x, Value.string y], u.oneCell' = true := by
  intro u hu
  simp at hu
  rcases hu with rfl | rfl <;> rfl
/-- What is held while a meter's fields are put. -/
def BM (w : World) (B : Nat) (a0 a1 a2 a3 a4 a5 : Value) (W : World) : Prop := Below w.heap.size w W ∧ B < W.heap.size ∧ W.cell? ⟨B, 0, none⟩ = some a0 ∧ W.cell? ⟨B, 1, none⟩ = some a1 ∧ W.cell? ⟨B, 2, none⟩ = some a2 ∧ W.cell? ⟨B, 3, none⟩ = some a3 ∧ W.cell? ⟨B, 4, none⟩ = some a4 ∧ W.cell? ⟨B, 5, none⟩ = some a5
theorem BM.below {w : World} {B : Nat} {a0 a1 a2 a3 a4 a5 : Value} {W W' : World} (h : BM w B a0 a1 a2 a3 a4 a5 W) (hb : Below W.heap.size W W') : BM w B a0 a1 a2 a3 a4 a5 W' := by
  obtain ⟨h0, l1, p0, p1, p2, p3, p4, p5⟩ := h
  have f := fun o => hb.cell (p := ⟨B, o, none⟩) l1
  have hs := hb.size
  exact ⟨h0.trans (hb.mono h0.size), by omega, (f 0).trans p0, (f 1).trans p1, (f 2).trans p2, (f 3).trans p3, (f 4).trans p4, (f 5).trans p5⟩
theorem BM.drew {w : World} {B : Nat} {a0 a1 a2 a3 a4 a5 : Value} {W : World} (h : BM w B a0 a1 a2 a3 a4 a5 W) : BM w B a0 a1 a2 a3 a4 a5 W.drew := ⟨h.1.drew, h.2⟩
/-- What is held while a pair's fields are put. -/
def BM2 (w : World) (B : Nat) (a0 a1 : Value) (W : World) : Prop := Below w.heap.size w W ∧ B < W.heap.size ∧ W.cell? ⟨B, 0, none⟩ = some a0 ∧ W.cell? ⟨B, 1, none⟩ = some a1
theorem BM2.below {w : World} {B : Nat} {a0 a1 : Value} {W W' : World} (h : BM2 w B a0 a1 W) (hb : Below W.heap.size W W') : BM2 w B a0 a1 W' := by
  obtain ⟨h0, l1, p0, p1⟩ := h
  have f := fun o => hb.cell (p := ⟨B, o, none⟩) l1
  have hs := hb.size
  exact ⟨h0.trans (hb.mono h0.size), by omega, (f 0).trans p0, (f 1).trans p1⟩
theorem BM2.drew {w : World} {B : Nat} {a0 a1 : Value} {W : World} (h : BM2 w B a0 a1 W) : BM2 w B a0 a1 W.drew := ⟨h.1.drew, h.2⟩
theorem BM2.grown {w : World} {B : Nat} {a0 a1 : Value} {W W' : World} {v : Value} {wr : World} {base e size n : Nat} {xs : List Value} (h : BM2 w B a0 a1 W) (hg : W.grownBy W' v.ownBlock) (ho : wr.ownsRow base e size v n xs) (hB : B = wr.heap.size := by rfl) (hbase : w.heap.size ≤ base := by omega) : BM2 w B a0 a1 W' := by
  obtain ⟨h0, l1, p0, p1⟩ := h
  have hne : some B ≠ v.ownBlock := fun e => by have := (ho.lt B e.symm).2; omega
  have e := hg.block B l1 hne
  exact ⟨h0.grown hg h0.size (fun k e => by have := (ho.lt k e).1; omega), by have := hg.size; omega, (World.cell?_of_block (a := ⟨B, 0, none⟩) e).trans p0, (World.cell?_of_block (a := ⟨B, 1, none⟩) e).trans p1⟩
set_option maxRecDepth 100000 in
set_option maxHeartbeats 8000000 in
theorem impl_meb (v : Value) (m : Me) (w : World) (hR : MRight m) (hM : IsMe v m w) :
    Calls Tryd.prog 26 #[v] w fun e w' => e = .returned (.string (meBy m)) ∧ Below w.heap.size w w' := by
  obtain ⟨i0, hi, hz0, hz1, hz2⟩ := info_parts infoS
  obtain ⟨⟨b0, b1⟩, b2, b3, b4, b5⟩ := mright_bd hR
  have HSZ := hid_intro (fun k => mePk_size hR k)
  have HFB := fl_bd m.wh
  have P1 := hid_intro (fun w => PutTextL.impl_text m.n w (by omega))
  have P2 := hid_intro (fun w => NumR.impl_put m.g w (by omega))
  have P3 := hid_intro (fun w => NumR.impl_put (fl m.wh) w (by omega))
  have P4 := hid_intro (fun w => NumR.impl_put m.f w (by omega))
  have P5 := hid_intro (fun w => NumR.impl_put m.l w (by omega))
  have P6 := hid_intro (fun w => NumR.impl_put m.ts.length w (by omega))
  have PF := hid_intro (fun w => flag_any m.wh w)
  obtain ⟨ta, tc, rfl, hT⟩ := hM
  have HT := hid_intro hT
  have HB5 := hid_intro b5
  have HBY : Hid (meBy m = joinB (meH m ++ m.ts.flatMap tiP)) := rfl
  have HH : Hid (meH m = [numB m.n.size ++ m.n, numB m.g, numB (fl m.wh), numB m.f, numB m.l, numB m.ts.length]) := rfl
  obtain ⟨n, g, wh, f, l, ts⟩ := m
  simp only at *
  clear hT hR b5 b0 b2 b3 b4 HFB
  generalize meH ⟨n, g, wh, f, l, ts⟩ = MH at *
  generalize meBy ⟨n, g, wh, f, l, ts⟩ = R at *
  generalize numB (n.size : Int) ++ n = T1 at *
  generalize numB g = T2 at *
  generalize numB (fl wh) = T3 at *
  generalize fl wh = F3 at *
  generalize numB f = T4 at *
  generalize numB l = T5 at *
  generalize numB (ts.length : Int) = T6 at *
  have hz := HT.out.1
  generalize htl : ts.length = tl at *
  have HTL := hid_intro htl
  clear hz htl
  go_enter Tryd.func26, Tryd.ntmps26
  go_wp2_with fail
  have HS0 : Hid (BM w w.heap.size (.string n) (.int .i64 g) (.bool wh) (.int .i64 f) (.int .i64 l) (.slice ta tl tc) (w.alloc (.cells #[.string n, .int .i64 g, .bool wh, .int .i64 f, .int .i64 l, .slice ta tl tc] 37))) := hid_intro ⟨(Below.refl _ _).alloc (Nat.le_refl _) _, by simp, by simp [go_sem], by simp [go_sem], by simp [go_sem], by simp [go_sem], by simp [go_sem], by simp [go_sem]⟩
  have HS1 := hid_intro HS0.out.drew
  go_region_held3 (fun W => Below w.heap.size w W ∧ w.heap.size < W.heap.size ∧ W.cell? ⟨w.heap.size, 0, none⟩ = some (.string n) ∧ W.cell? ⟨w.heap.size, 1, none⟩ = some (.int .i64 g) ∧ W.cell? ⟨w.heap.size, 2, none⟩ = some (.bool wh) ∧ W.cell? ⟨w.heap.size, 3, none⟩ = some (.int .i64 f) ∧ W.cell? ⟨w.heap.size, 4, none⟩ = some (.int .i64 l) ∧ W.cell? ⟨w.heap.size, 5, none⟩ = some (.slice ta tl tc)) (first | assumption | (exact HS0.out) | (exact HS1.out) | (exact BM.below (w := w) (B := w.heap.size) (by assumption) hb) | (exact BM.below (w := w) (B := w.heap.size) (by assumption) ((Below.refl _ _).alloc (Nat.le_refl _) _)))
    (first | (go_at_call 27; refine (P1.out _).mono ?_; rintro e w' ⟨rfl, hb⟩) | (go_at_call 57; refine (PF.out _).mono ?_; rintro e w' ⟨rfl, rfl⟩) | (go_at_call_of 25 (Value.int .i64 g); refine (P2.out _).mono ?_; rintro e w' ⟨rfl, hb⟩) | (go_at_call_of 25 (Value.int .i64 F3); refine (P3.out _).mono ?_; rintro e w' ⟨rfl, hb⟩) | (go_at_call_of 25 (Value.int .i64 f); refine (P4.out _).mono ?_; rintro e w' ⟨rfl, hb⟩) | (go_at_call_of 25 (Value.int .i64 l); refine (P5.out _).mono ?_; rintro e w' ⟨rfl, hb⟩) | (go_at_call_of 25 (Value.int .i64 (tl : Int)); refine (P6.out _).mono ?_; rintro e w' ⟨rfl, hb⟩))
  rename_i hS
  have HB0 := hid_intro hS.1
  have HA0 : Hid (w.heap.size < (w'.alloc (Obj.cells #[Value.string T1, Value.string T2, Value.string T3, Value.string T4, Value.string T5, Value.string T6] 9)).heap.size ∧ (w'.alloc (Obj.cells #[Value.string T1, Value.string T2, Value.string T3, Value.string T4, Value.string T5, Value.string T6] 9)).cell? ⟨w.heap.size, 5, none⟩ = some (.slice ta tl tc)) := hid_intro ⟨hS.2.1, hS.2.2.2.2.2.2.2⟩
  have HWS : Hid (w.heap.size ≤ w'.heap.size) := hid_intro (by have := hS.2.1; simp at this; omega)
  have HO0 : Hid ((w'.alloc (Obj.cells #[Value.string T1, Value.string T2, Value.string T3, Value.string T4, Value.string T5, Value.string T6] 9)).ownsRow w.heap.size 9 1 (.slice (some ⟨w'.heap.size, 0, none⟩) 6 6) (6 + 2 * 0) ((MH ++ (ts.take 0).flatMap tiP).map Value.string)) := hid_intro (by
    rw [HH.out]
    exact ⟨by simp, .inr ⟨w'.heap.size, 6, #[.string T1, .string T2, .string T3, .string T4, .string T5, .string T6], rfl, HWS.out, heap_alloc_new w' _, by omega, by unfold maxLen; omega, by simp, by simp⟩⟩)
  generalize (w'.alloc (Obj.cells #[Value.string T1, Value.string T2, Value.string T3, Value.string T4, Value.string T5, Value.string T6] 9)) = W1 at *
  obtain ⟨k1, k2⟩ := HA0.out
  clear hS HS0 HS1
  go_wp2_with fail
  go_loopw [3, 30] (fun v z wr => ∃ (j : Nat), j ≤ tl ∧ z = .int .i64 j ∧ Hid (wr.ownsRow w.heap.size 9 1 v (6 + 2 * j) ((MH ++ (ts.take j).flatMap tiP).map Value.string)) ∧ Hid (v ≠ .slice none 0 0) ∧ Hid (Below w.heap.size w wr)) (fun v z _ => tl - (intOf z).toNat)
  case atStart => exact ⟨0, by omega, rfl, HO0, hid_intro (by simp), HB0⟩
  case round =>
    clear k1 k2 HA0 HB0 HO0 HWS
    obtain ⟨j, hj, rfl, HO, HV, HB⟩ := hrel
    by_cases hlt : j < tl
    · have hlt2 : (j : Int) < (tl : Int) := by omega
      obtain ⟨b, off, rfl, hbl, d0, d1⟩ := tis_at (HT.out.below HB.out) j hlt
      have c0 : wr.cell? ⟨b, off + j * 2, none⟩ = some (.int .i64 (tU ts j)) := d0
      have c1 : wr.cell? ⟨b, off + j * 2 + 1, none⟩ = some (.int .i64 (tP ts j)) := d1
      clear d0 d1
      obtain ⟨⟨u1, u2⟩, u3, u4⟩ := HB5.out j (by have := HTL.out; omega)
      have Q1 := hid_intro (fun w => NumR.impl_put (tU ts j) w (by omega))
      have Q2 := hid_intro (fun w => NumR.impl_put (tP ts j) w (by omega))
      have HC1 : Hid ((ts.take (j + 1)).flatMap tiP = (ts.take j).flatMap tiP ++ [numB (tU ts j), numB (tP ts j)]) := hid_intro (take_flat ts tiP Ti.zero j (by have := HTL.out; omega))
      generalize numB (tU ts j) = X1 at *
      generalize numB (tP ts j) = X2 at *
      generalize tU ts j = U at *
      generalize tP ts j = P at *
      clear u1 u2 u3 u4
      have HAl : Hid (BM2 w wr.heap.size (.int .i64 U) (.int .i64 P) (wr.alloc (.cells #[.int .i64 U, .int .i64 P] 72))) := hid_intro ⟨HB.out.alloc HB.out.size _, by simp, by simp [go_sem], by simp [go_sem]⟩
      have HAd := hid_intro HAl.out.drew
      have HOA := hid_intro (own_drew (HO.out.alloc (.cells #[.int .i64 U, .int .i64 P] 72)))
      have sz1 : 6 + 2 * j + 2 ≤ maxLen := by unfold maxLen; omega
      have sz2 : (6 + 2 * j + 2) * 16 ≤ 140737488355328 := by omega
      have sz3 : 0 < 1 := by omega
      go_wp2_with fail
      go_region_held3 (fun W => Below w.heap.size w W ∧ wr.heap.size < W.heap.size ∧ W.cell? ⟨wr.heap.size, 0, none⟩ = some (.int .i64 U) ∧ W.cell? ⟨wr.heap.size, 1, none⟩ = some (.int .i64 P))
        (first | assumption | (exact HAl.out) | (exact HAd.out) | (exact BM2.below (w := w) (B := wr.heap.size) (by assumption) hb1) | (exact BM2.below (w := w) (B := wr.heap.size) (by assumption) hb2) | (exact BM2.below (w := w) (B := wr.heap.size) (by assumption) ((Below.refl _ _).alloc (Nat.le_refl _) _)) | (exact BM2.grown (w := w) (B := wr.heap.size) (by assumption) hgrow HO.out rfl (Nat.le_refl _)))
        (first | (go_at_call_of 25 (Value.int .i64 U); refine (Q1.out _).mono ?_; rintro e w1 ⟨rfl, hb1⟩; have HO1 := hid_intro (own_below HOA.out hb1)) | (go_at_call_of 25 (Value.int .i64 P); refine (Q2.out _).mono ?_; rintro e w2 ⟨rfl, hb2⟩; have HO2 := hid_intro (own_below HO1.out hb2)) | (refine step_append_own rfl _ _ 50 rfl w.heap.size 9 i0 (.string ⟨#[]⟩) 1 16 Tryd.underlying50 hi hz0 hz1 hz2 rfl sz3 _ _ _ rfl (HO2.out.alloc _) ⟨w2.heap.size, 0, none⟩ 2 2 [.string X1, .string X2] rfl rfl (two_cells _ _ _ _) (two_one _ _) sz1 sz2 (own_base (HO2.out.alloc _) HV.out) ?_; intro v' w4 hown hgrow hne))
      rename_i hS
      have HS4 := hid_intro hS.1
      have HO4 : Hid (w4.ownsRow w.heap.size 9 1 v' (6 + 2 * (j + 1)) ((MH ++ (ts.take (j + 1)).flatMap tiP).map Value.string)) := hid_intro (by
        rw [HC1.out, ← List.append_assoc, List.map_append, show 6 + 2 * (j + 1) = 6 + 2 * j + 2 by omega]
        exact hown)
      have HV4 : Hid (v' ≠ .slice none 0 0) := hid_intro (by
        intro h
        exact HV.out (hne.1 h).1)
      clear hown hgrow hne hS
      go_wp2_with fail
      go_roundw
      case rel => exact ⟨j + 1, by omega, by go_num, HO4, HV4, HS4⟩
      case measure => simp [intOf]; omega
    · obtain rfl : j = tl := by omega
      have HTK : Hid (ts.take j = ts) := hid_intro (List.take_of_length_le (by have := HTL.out; omega))
      have HSZ2 := hid_intro (HSZ.out j)
      rw [HTK.out] at HO HSZ2
      obtain ⟨q, cap', rfl, hg, hn, hcap, hcell⟩ := own_texts HO.out HV.out
      have hj2 := JoinR.join_len (MH ++ ts.flatMap tiP) q cap' _ (by omega) (by omega) hg hcell (by rw [jl_size]; have := HSZ2.out; omega)
      rw [hn] at hj2
      have HJ2 := hid_intro hj2
      clear hj2 hcell
      go_wp2_with fail
      refine HJ2.out.mono ?_
      rintro e w2 ⟨rfl, hb⟩
      have HB2 := hid_intro (HB.out.trans (hb.mono HB.out.size))
      clear hb
      go_wp2_with fail
      go_ret
      exact ⟨ret_str HBY.out.symm, HB2.out⟩
end CatR
end Go.Proofs.YtaedolophhcjjaaDoor
namespace Go.Proofs.YtaedolophhcjjaaDoor
open Go.ChangeShapes Go.WideShapes Go.ChangeAt Go.RowKit
set_option linter.unusedVariables false
namespace CatR
open NumR (numB numB_size)
open JoinR (joinB jl)
theorem one_cell (w : World) (x : ByteArray) (T : TypeId) : ∀ j u, [Value.string x][j]? = some u → (w.alloc (.cells #[.string x] T)).cell? ((⟨w.heap.size, 0, none⟩ : Addr).add j) = some u := by
  intro j u hj
  match j, hj with
  | 0, hj => simp at hj; subst hj; simp [Addr.add]
theorem one_one (x : ByteArray) : ∀ u ∈ [Value.string x], u.oneCell' = true := by
  intro u hu
  simp at hu
  subst hu; rfl
theorem blk_grown {b : Nat} {cs : List Value} {w w' : World} {row : Option Nat} (h : Blk b cs w) (hg : w.grownBy w' row) (hne : some b ≠ row) : Blk b cs w' := by
  have e := hg.block b h.1 hne
  exact ⟨by have := hg.size; have := h.1; omega, fun i hi => (World.cell?_of_block (a := ⟨b, i, none⟩) e).trans (h.2 i hi)⟩
/-- The parts so far: the meters', then the credits'. -/
def pA (c : Ca) (k : Nat) : List ByteArray := [numB c.ms.length] ++ (c.ms.take k).map meBy
def pB (c : Ca) (k : Nat) : List ByteArray := ((([numB c.ms.length] ++ c.ms.map meBy) ++ [numB c.cs.length])) ++ (c.cs.take k).flatMap crP
theorem pB_size {c : Ca} (h : caB c = true) (k : Nat) : (joinB (pB c k)).size ≤ 20 * 640 := by
  obtain ⟨⟨m6, hm⟩, ⟨c6, hc⟩⟩ := caB_iff.1 h
  have h1 := join_size_le 640 (pB c k) (fun x hx => by
    unfold pB at hx
    simp only [List.mem_append, List.mem_cons, List.not_mem_nil, or_false, List.mem_map, List.mem_flatMap] at hx
    rcases hx with ((rfl | ⟨m, hmm, rfl⟩) | rfl) | ⟨y, hy, hx⟩
    · exact Nat.le_trans (num_le (by omega) (by omega)) (by omega)
    · obtain ⟨i, hi, rfl⟩ := List.getElem_of_mem hmm
      have e : c.ms.getD i Me.zero = c.ms[i] := by simp [List.getD, hi]
      have := (hm i hi).1
      rw [e] at this
      exact meBy_size this
    · exact Nat.le_trans (num_le (by omega) (by omega)) (by omega)
    · obtain ⟨i, hi, rfl⟩ := List.getElem_of_mem (List.mem_of_mem_take hy)
      have e : c.cs.getD i Cr.zero = c.cs[i] := by simp [List.getD, hi]
      have h2 := (hc i hi).1
      unfold cA cM at h2
      rw [e] at h2
      simp only [crP, List.mem_cons, List.not_mem_nil, or_false] at hx
      rcases hx with rfl | rfl
      · exact Nat.le_trans (txt_le (name_le h2.1).2) (by omega)
      · exact Nat.le_trans (num_le h2.2.1 h2.2.2) (by omega))
  have h2 : (pB c k).length ≤ 20 := by
    unfold pB
    simp only [List.length_append, List.length_cons, List.length_nil, List.length_map, cr_len, List.length_take]
    omega
  exact Nat.le_trans h1 (Nat.mul_le_mul_right _ h2)
set_option maxRecDepth 100000 in
set_option maxHeartbeats 8000000 in
theorem impl_cab (v : Value) (c : Ca) (w : World) (hS : c.Small) (hC : IsCa v c w) (hL : Laid w) :
    Calls Tryd.prog 5 #[v] w fun e w' => e = .returned (.string (caBy c)) ∧ Below w.heap.size w w' := by
  have HR0 : Hid (∀ W, Below w.heap.size w W → Calls Tryd.prog 21 #[v] W fun e w' => e = .returned (.bool (caB c)) ∧ Below W.heap.size W w') := hid_intro (fun W hW => impl_ca v c W hS (hC.below hW) (hL.below hW))
  obtain ⟨i0, hi, hz0, hz1, hz2⟩ := info_parts infoS
  obtain ⟨ma, mc, ca, cc, rfl, hM, hR⟩ := hC
  have HBY : Hid (caBy c = if caB c = true then joinB (caP c) else ⟨#[]⟩) := rfl
  have HPS := hid_intro (pB_size (c := c))
  have HIF := hid_intro (caB_iff (c := c))
  have HM := hid_intro hM
  have HJ := hid_intro hR
  clear hM hR hS hL
  generalize hcb : caB c = r at *
  clear hcb
  have HB : Hid (Below w.heap.size w (w.alloc (.cells #[.slice ma c.ms.length mc, .slice ca c.cs.length cc] 26))) := hid_intro ((Below.refl _ _).alloc (Nat.le_refl _) _)
  have HA : Hid (Blk w.heap.size [.slice ma c.ms.length mc, .slice ca c.cs.length cc] (w.alloc (.cells #[.slice ma c.ms.length mc, .slice ca c.cs.length cc] 26))) := hid_intro (Blk.new w _ _)
  generalize caBy c = R at *
  generalize hml : c.ms.length = ml at *
  generalize hcl : c.cs.length = cl at *
  have HML := hid_intro hml
  have HCL := hid_intro hcl
  clear hml hcl
  go_enter Tryd.func5, Tryd.ntmps5
  go_wp2_with fail
  refine (HR0.out _ HB.out).mono ?_
  rintro e w1 ⟨rfl, hb1⟩
  have HB1 := hid_intro (HB.out.trans (hb1.mono HB.out.size))
  have HA1 := hid_intro (HA.out.below hb1)
  have hl1 := HA1.out.1
  have q0 : w1.cell? ⟨w.heap.size, 0, none⟩ = some (.slice ma ml mc) := HA1.out.2 0 (by simp)
  have q1 : w1.cell? ⟨w.heap.size, 1, none⟩ = some (.slice ca cl cc) := HA1.out.2 1 (by simp)
  clear hb1 HB HA
  cases r
  · go_wp2_with fail
    go_ret
    exact ⟨ret_str (by rw [HBY.out]; first | rw [if_neg (by simp)] | rfl), HB1.out⟩
  · obtain ⟨⟨m6, hmo⟩, ⟨c6, hco⟩⟩ := HIF.out.1 rfl
    have HMO := hid_intro hmo
    have HCO := hid_intro hco
    have hm6 : ml ≤ 6 := by have := HML.out; omega
    have hc6 : cl ≤ 6 := by have := HCL.out; omega
    have P1 := hid_intro (fun w => NumR.impl_put (ml : Int) w (by omega))
    have P2 := hid_intro (fun w => NumR.impl_put (cl : Int) w (by omega))
    have HP1 : Hid (pA c 0 = [numB (ml : Int)]) := hid_intro (by unfold pA; rw [HML.out]; simp)
    have HP2 : Hid (pB c 0 = pA c ml ++ [numB (cl : Int)]) := hid_intro (by
      unfold pA pB
      rw [HML.out, HCL.out, List.take_of_length_le (l := c.ms) (i := ml) (by have := HML.out; omega)]
      simp)
    have HP3 : Hid (pB c cl = caP c) := hid_intro (by unfold pB caP; rw [List.take_of_length_le (by have := HCL.out; omega)])
    clear hmo hco m6 c6
    generalize numB (ml : Int) = T1 at *
    generalize numB (cl : Int) = T2 at *
    go_wp2_with fail
    refine (P1.out _).mono ?_
    rintro e w2 ⟨rfl, hb2⟩
    have HB2 := hid_intro (HB1.out.trans (hb2.mono HB1.out.size))
    have HA2 := hid_intro (HA1.out.below hb2)
    clear hb2 q0 q1 hl1
    have HO0 : Hid ((w2.alloc (Obj.cells #[Value.string T1] 9)).ownsRow (w.heap.size + 1) 9 1 (.slice (some ⟨w2.heap.size, 0, none⟩) 1 1) (1 + 0) ((pA c 0).map Value.string)) := hid_intro (by
      rw [HP1.out]
      exact ⟨by simp, .inr ⟨w2.heap.size, 1, #[.string T1], rfl, HA2.out.1, heap_alloc_new w2 _, by omega, by unfold maxLen; omega, by simp, by simp⟩⟩)
    have HB3 := hid_intro (HB2.out.alloc HB2.out.size (Obj.cells #[Value.string T1] 9))
    have HA3 := hid_intro (HA2.out.alloc (Obj.cells #[Value.string T1] 9))
    obtain ⟨W3, hW3⟩ : ∃ W3, W3 = w2.alloc (Obj.cells #[Value.string T1] 9) := ⟨_, rfl⟩
    rw [← hW3] at HO0 HB3 HA3
    have HW3 := hid_intro hW3
    have hl2 := HA2.out.1
    have q0 : w2.cell? ⟨w.heap.size, 0, none⟩ = some (.slice ma ml mc) := HA2.out.2 0 (by simp)
    have q1 : w2.cell? ⟨w.heap.size, 1, none⟩ = some (.slice ca cl cc) := HA2.out.2 1 (by simp)
    clear hW3
    go_wp2_with fail
    rw [← HW3.out]
    go_loopw [3, 19] (fun v z wr => ∃ (j : Nat), j ≤ ml ∧ z = .int .i64 j ∧ Hid (wr.ownsRow (w.heap.size + 1) 9 1 v (1 + j) ((pA c j).map Value.string)) ∧ Hid (v ≠ .slice none 0 0) ∧ Hid (Below w.heap.size w wr) ∧ Hid (Blk w.heap.size [.slice ma ml mc, .slice ca cl cc] wr)) (fun v z _ => ml - (intOf z).toNat)
    case atStart => exact ⟨0, by omega, rfl, HO0, hid_intro (by simp), HB3, HA3⟩
    case round =>
      clear HO0 HB3 HA3 hl2 q0 q1 HB2 HA2 HB1 HA1
      obtain ⟨j, hj, rfl, HO, HV, HB, HA⟩ := hrel
      by_cases hlt : j < ml
      · have hlt2 : (j : Int) < (ml : Int) := by omega
        have hjl : j < c.ms.length := by have := HML.out; omega
        obtain ⟨b, off, rfl, hbl, ta, tc, c0, c1, c2, c3, c4, c5, hT⟩ := mes_at (HM.out.below HB.out) j hlt
        have HMB := hid_intro (fun W (hW : Below wr.heap.size wr W) => impl_meb _ (c.ms.getD j Me.zero) W (HMO.out j hjl).1 ⟨ta, tc, rfl, hT.below hW⟩)
        have HC1 : Hid (pA c (j + 1) = pA c j ++ [meBy (c.ms.getD j Me.zero)]) := hid_intro (by unfold pA; rw [take_map c.ms meBy Me.zero j hjl, ← List.append_assoc])
        generalize meBy (c.ms.getD j Me.zero) = G at *
        generalize (c.ms.getD j Me.zero).ts.length = tl at *
        generalize (c.ms.getD j Me.zero).n = n at *
        generalize (c.ms.getD j Me.zero).g = g at *
        generalize (c.ms.getD j Me.zero).wh = wh at *
        generalize (c.ms.getD j Me.zero).f = f at *
        generalize (c.ms.getD j Me.zero).l = l at *
        clear hT
        go_wp2_with fail
        refine (HMB.out _ ((Below.refl _ _).alloc (Nat.le_refl _) _)).mono ?_
        rintro e w4 ⟨rfl, hb4⟩
        have HBR := hid_intro (bel_alloc hb4)
        have HO4 := hid_intro (own_below HO.out HBR.out)
        have HW4 := hid_intro (HB.out.trans (HBR.out.mono HB.out.size))
        have HA4 := hid_intro (HA.out.below HBR.out)
        clear hb4 c0 c1 c2 c3 c4 c5
        go_wp2_with (at_builtin; refine wpList_append_own _ rfl _ _ 50 rfl (w.heap.size + 1) 9 i0 (.string ⟨#[]⟩) 1 16 Tryd.underlying50 hi hz0 hz1 hz2 rfl (by decide) _ _ _ rfl (HO4.out.alloc _) ⟨w4.heap.size, 0, none⟩ 1 1 [.string G] rfl rfl (one_cell _ _ _) (one_one _) ?d3 ?d4 ?d5 ?_)
        case d3 => unfold maxLen; omega
        case d4 => omega
        case d5 => have h1 := HA4.out.1; simp; omega
        intro v' w5 hown hgrow hne
        have HO5 : Hid (w5.ownsRow (w.heap.size + 1) 9 1 v' (1 + (j + 1)) ((pA c (j + 1)).map Value.string)) := hid_intro (by rw [HC1.out, List.map_append, ← Nat.add_assoc]; exact hown)
        have HV5 : Hid (v' ≠ .slice none 0 0) := hid_intro (by first | exact hne | exact fun h => HV.out (hne.1 h).1)
        have HB5 : Hid (Below w.heap.size w w5) := hid_intro ((HW4.out.alloc HW4.out.size _).grown hgrow (HW4.out.alloc HW4.out.size _).size (fun k e => by have := (HO.out.lt k e).1; omega))
        have HA5 : Hid (Blk w.heap.size [.slice (some ⟨b, off, none⟩) ml mc, .slice ca cl cc] w5) := hid_intro (blk_grown (HA4.out.alloc _) hgrow (fun e => by have := HO.out.lt _ e.symm; omega))
        clear hown hgrow hne
        go_wp2_with fail
        go_roundw
        case rel => exact ⟨j + 1, by omega, by go_num, HO5, HV5, HB5, HA5⟩
        case measure => simp [intOf]; omega
      · obtain rfl : j = ml := by omega
        have hl2 := HA.out.1
        have q1 : wr.cell? ⟨w.heap.size, 1, none⟩ = some (.slice ca cl cc) := HA.out.2 1 (by simp)
        go_wp2_with fail
        refine (P2.out _).mono ?_
        rintro e w4 ⟨rfl, hb4⟩
        have HO4 := hid_intro (own_below HO.out hb4)
        have HW4 := hid_intro (HB.out.trans (hb4.mono HB.out.size))
        have HA4 := hid_intro (HA.out.below hb4)
        clear hb4 q1 hl2
        go_wp2_with (at_builtin; refine wpList_append_own _ rfl _ _ 50 rfl (w.heap.size + 1) 9 i0 (.string ⟨#[]⟩) 1 16 Tryd.underlying50 hi hz0 hz1 hz2 rfl (by decide) _ _ _ rfl (HO4.out.alloc _) ⟨w4.heap.size, 0, none⟩ 1 1 [.string T2] rfl rfl (one_cell _ _ _) (one_one _) ?d3 ?d4 ?d5 ?_)
        case d3 => unfold maxLen; omega
        case d4 => omega
        case d5 => have h1 := HA4.out.1; simp; omega
        intro v' w5 hown hgrow hne
        have HO5 : Hid (w5.ownsRow (w.heap.size + 1) 9 1 v' (2 + j + 2 * 0) ((pB c 0).map Value.string)) := hid_intro (by rw [HP2.out, List.map_append, show 2 + j + 2 * 0 = 1 + j + 1 by omega]; exact hown)
        have HV5 : Hid (v' ≠ .slice none 0 0) := hid_intro (by first | exact hne | exact fun h => HV.out (hne.1 h).1)
        have HB5 : Hid (Below w.heap.size w w5) := hid_intro ((HW4.out.alloc HW4.out.size _).grown hgrow (HW4.out.alloc HW4.out.size _).size (fun k e => by have := (HO.out.lt k e).1; omega))
        have HA5 : Hid (Blk w.heap.size [.slice ma j mc, .slice ca cl cc] w5) := hid_intro (blk_grown (HA4.out.alloc _) hgrow (fun e => by have := HO.out.lt _ e.symm; omega))
        have hl5 := HA5.out.1
        have q1 : w5.cell? ⟨w.heap.size, 1, none⟩ = some (.slice ca cl cc) := HA5.out.2 1 (by simp)
        clear hown hgrow hne
        go_wp2_with fail
        go_loopw [3, 39] (fun v z wx => ∃ (i : Nat), i ≤ cl ∧ z = .int .i64 i ∧ Hid (wx.ownsRow (w.heap.size + 1) 9 1 v (2 + j + 2 * i) ((pB c i).map Value.string)) ∧ Hid (v ≠ .slice none 0 0) ∧ Hid (Below w.heap.size w wx)) (fun v z _ => cl - (intOf z).toNat)
        case atStart => exact ⟨0, by omega, rfl, HO5, HV5, HB5⟩
        case round =>
          clear HO5 HV5 HB5 HA5 hl5 q1 HO4 HW4 HA4 HO HV HB HA
          obtain ⟨i, hi2, rfl, HO, HV, HB⟩ := hrel
          by_cases hlt3 : i < cl
          · have hlt2 : (i : Int) < (cl : Int) := by omega
            have hil : i < c.cs.length := by have := HCL.out; omega
            obtain ⟨b, off, rfl, hbl, d0, d1⟩ := crs_at (HJ.out.below HB.out) i hlt3
            have c0 : wr.cell? ⟨b, off + i * 2, none⟩ = some (.string (cA c.cs i)) := d0
            have c1 : wr.cell? ⟨b, off + i * 2 + 1, none⟩ = some (.int .i64 (cM c.cs i)) := d1
            clear d0 d1
            obtain ⟨⟨u1, u2, u3'⟩, _⟩ := HCO.out i hil
            have u4 := (name_le u1).2
            have Q1 := hid_intro (fun w => PutTextL.impl_text (cA c.cs i) w (by omega))
            have Q2 := hid_intro (fun w => NumR.impl_put (cM c.cs i) w (by omega))
            have HC1 : Hid (pB c (i + 1) = pB c i ++ [numB ((cA c.cs i).size : Int) ++ cA c.cs i, numB (cM c.cs i)]) := hid_intro (by unfold pB; rw [take_flat c.cs crP Cr.zero i hil, ← List.append_assoc]; rfl)
            generalize numB ((cA c.cs i).size : Int) ++ cA c.cs i = X1 at *
            generalize numB (cM c.cs i) = X2 at *
            generalize cA c.cs i = U at *
            generalize cM c.cs i = P at *
            clear u1 u2 u3' u4
            have HAl : Hid (BM2 w wr.heap.size (.string U) (.int .i64 P) (wr.alloc (.cells #[.string U, .int .i64 P] 53))) := hid_intro ⟨HB.out.alloc HB.out.size _, by simp, by simp [go_sem], by simp [go_sem]⟩
            have HAd := hid_intro HAl.out.drew
            have HOA := hid_intro (own_drew (HO.out.alloc (.cells #[.string U, .int .i64 P] 53)))
            have sz1 : 2 + j + 2 * i + 2 ≤ maxLen := by unfold maxLen; omega
            have sz2 : (2 + j + 2 * i + 2) * 16 ≤ 140737488355328 := by omega
            have sz3 : 0 < 1 := by omega
            go_wp2_with fail
            go_region_held3 (fun W => Below w.heap.size w W ∧ wr.heap.size < W.heap.size ∧ W.cell? ⟨wr.heap.size, 0, none⟩ = some (.string U) ∧ W.cell? ⟨wr.heap.size, 1, none⟩ = some (.int .i64 P))
              (first | assumption | (exact HAl.out) | (exact HAd.out) | (exact BM2.below (w := w) (B := wr.heap.size) (by assumption) hb1) | (exact BM2.below (w := w) (B := wr.heap.size) (by assumption) hb2) | (exact BM2.below (w := w) (B := wr.heap.size) (by assumption) ((Below.refl _ _).alloc (Nat.le_refl _) _)) | (exact BM2.grown (w := w) (B := wr.heap.size) (by assumption) hgrow HO.out rfl (Nat.le_succ _)))
              (first | (go_at_call 27; refine (Q1.out _).mono ?_; rintro e w1 ⟨rfl, hb1⟩; have HO1 := hid_intro (own_below HOA.out hb1)) | (go_at_call 25; refine (Q2.out _).mono ?_; rintro e w2 ⟨rfl, hb2⟩; have HO2 := hid_intro (own_below HO1.out hb2)) | (refine step_append_own rfl _ _ 50 rfl (w.heap.size + 1) 9 i0 (.string ⟨#[]⟩) 1 16 Tryd.underlying50 hi hz0 hz1 hz2 rfl sz3 _ _ _ rfl (HO2.out.alloc _) ⟨w2.heap.size, 0, none⟩ 2 2 [.string X1, .string X2] rfl rfl (two_cells _ _ _ _) (two_one _ _) sz1 sz2 (own_base (HO2.out.alloc _) HV.out) ?_; intro v' w4 hown hgrow hne))
            rename_i hS
            have HS4 := hid_intro hS.1
            have HO4 : Hid (w4.ownsRow (w.heap.size + 1) 9 1 v' (2 + j + 2 * (i + 1)) ((pB c (i + 1)).map Value.string)) := hid_intro (by
              rw [HC1.out, List.map_append, show 2 + j + 2 * (i + 1) = 2 + j + 2 * i + 2 by omega]
              exact hown)
            have HV4 : Hid (v' ≠ .slice none 0 0) := hid_intro (by first | exact hne | exact fun h => HV.out (hne.1 h).1)
            clear hown hgrow hne hS
            go_wp2_with fail
            go_roundw
            case rel => exact ⟨i + 1, by omega, by go_num, HO4, HV4, HS4⟩
            case measure => simp [intOf]; omega
          · obtain rfl : i = cl := by omega
            have HSZ2 := hid_intro (HPS.out (by first | exact rfl | trivial) i)
            rw [HP3.out] at HO HSZ2
            obtain ⟨q, cap', rfl, hg, hn, hcap, hcell⟩ := own_texts HO.out HV.out
            have hj2 := JoinR.join_len (caP c) q cap' _ (by omega) (by omega) hg hcell (by rw [jl_size]; have := HSZ2.out; omega)
            rw [hn] at hj2
            have HJ2 := hid_intro hj2
            have HRR : Hid (R = joinB (caP c)) := hid_intro (by rw [HBY.out]; (first | rw [if_pos rfl] | rw [if_pos trivial]))
            clear hj2 hcell
            go_wp2_with fail
            refine HJ2.out.mono ?_
            rintro e w6 ⟨rfl, hb⟩
            have HB6 := hid_intro (HB.out.trans (hb.mono HB.out.size))
            clear hb
            go_wp2_with fail
            go_ret
            exact ⟨ret_str HRR.out.symm, HB6.out⟩
end CatR
end Go.Proofs.YtaedolophhcjjaaDoor
namespace Go.Proofs.YtaedolophhcjjaaDoor
open Go.ChangeShapes Go.WideShapes Go.ChangeAt Go.RowKit
set_option linter.unusedVariables false
namespace CatR
open NumR (numB numB_size)
open JoinR (joinB jl)
theorem spec_flag (b : Bool) (w : World) : Calls Tryd.prog 65 #[.bool b] w fun e w' => e = .returned (.string (numB (fl b))) ∧ Below w.heap.size w w' := by
  have P1 := hid_intro (fun w => NumR.spec_put 1 w (by omega))
  have P0 := hid_intro (fun w => NumR.spec_put 0 w (by omega))
  cases b
  · rw [show fl false = 0 from rfl]
    generalize numB 0 = X at *
    go_enter Tryd.func65, Tryd.ntmps65
    go_wp2_with fail
    refine (P0.out _).mono ?_
    rintro e w1 ⟨rfl, hb⟩
    go_wp2_with fail
    go_ret
    exact ⟨rfl, hb⟩
  · rw [show fl true = 1 from rfl]
    generalize numB 1 = X at *
    go_enter Tryd.func65, Tryd.ntmps65
    go_wp2_with fail
    refine (P1.out _).mono ?_
    rintro e w1 ⟨rfl, hb⟩
    go_wp2_with fail
    go_ret
    exact ⟨rfl, hb⟩
theorem pA_size {c : Ca} (h : caB c = true) (k : Nat) : (joinB (pA c k)).size ≤ 7 * 640 := by
  obtain ⟨⟨m6, hm⟩, ⟨c6, hc⟩⟩ := caB_iff.1 h
  have h1 := join_size_le 640 (pA c k) (fun x hx => by
    unfold pA at hx
    simp only [List.mem_append, List.mem_cons, List.not_mem_nil, or_false, List.mem_map] at hx
    rcases hx with rfl | ⟨m, hmm, rfl⟩
    · exact Nat.le_trans (num_le (by omega) (by omega)) (by omega)
    · obtain ⟨i, hi, rfl⟩ := List.getElem_of_mem (List.mem_of_mem_take hmm)
      have e : c.ms.getD i Me.zero = c.ms[i] := by simp [List.getD, hi]
      have := (hm i hi).1
      rw [e] at this
      exact meBy_size this)
  have h2 : (pA c k).length ≤ 7 := by
    unfold pA
    simp only [List.length_append, List.length_cons, List.length_nil, List.length_map, List.length_take]
    omega
  exact Nat.le_trans h1 (Nat.mul_le_mul_right _ h2)
theorem app_two (X a b : ByteArray) (l : List ByteArray) (h : X = joinB l) : X ++ a ++ b = joinB (l ++ [a, b]) := by
  rw [joinB_app, joinB_two, h, ByteArray.append_assoc]
theorem app_in (T X a b : ByteArray) (l : List ByteArray) (h : X = T ++ joinB l) : X ++ a ++ b = T ++ joinB (l ++ [a, b]) := by
  rw [joinB_app, joinB_two, h, ByteArray.append_assoc, ByteArray.append_assoc]
theorem app_six (T a b c d e f : ByteArray) : T ++ a ++ b ++ c ++ d ++ e ++ f = T ++ joinB [a, b, c, d, e, f] := by
  rw [show [a, b, c, d, e, f] = [a, b] ++ ([c, d] ++ [e, f]) from rfl, joinB_app, joinB_app, joinB_two, joinB_two, joinB_two]
  simp only [ByteArray.append_assoc]
/-- What is held while a pair of a list is put: the list's own cell, and the pair's two. -/
def BT (w : World) (B o b f : Nat) (x a0 a1 : Value) (W : World) : Prop := Below w.heap.size w W ∧ B < W.heap.size ∧ b < W.heap.size ∧ W.cell? ⟨B, o, none⟩ = some x ∧ W.cell? ⟨b, f, none⟩ = some a0 ∧ W.cell? ⟨b, f + 1, none⟩ = some a1
theorem BT.below {w : World} {B o b f : Nat} {x a0 a1 : Value} {W W' : World} (h : BT w B o b f x a0 a1 W) (hb : Below W.heap.size W W') : BT w B o b f x a0 a1 W' := by
  obtain ⟨h0, l1, l2, p0, p1, p2⟩ := h
  have g1 := fun o => hb.cell (p := ⟨B, o, none⟩) l1
  have g2 := fun o => hb.cell (p := ⟨b, o, none⟩) l2
  have hs := hb.size
  exact ⟨h0.trans (hb.mono h0.size), by omega, by omega, (g1 _).trans p0, (g2 _).trans p1, (g2 _).trans p2⟩
theorem BT.drew {w : World} {B o b f : Nat} {x a0 a1 : Value} {W : World} (h : BT w B o b f x a0 a1 W) : BT w B o b f x a0 a1 W.drew := ⟨h.1.drew, h.2⟩
set_option maxRecDepth 100000 in
set_option maxHeartbeats 8000000 in
theorem spec_l05 (v : Value) (c : Ca) (w : World) (hC : IsCa v c w) (hR : caB c = true) :
    Calls Tryd.prog 35 #[v] w fun e w' => e = .returned (.string (joinB (caP c))) ∧ Below w.heap.size w w' := by
  obtain ⟨ma, mc, ca, cc, rfl, hM, hJ⟩ := hC
  obtain ⟨⟨m6, hmo⟩, ⟨c6, hco⟩⟩ := caB_iff.1 hR
  have HPA := hid_intro (fun k => pA_size (c := c) hR k)
  have HPB := hid_intro (fun k => pB_size (c := c) hR k)
  have HMO := hid_intro hmo
  have HCO := hid_intro hco
  have HM := hid_intro hM
  have HJ := hid_intro hJ
  clear hM hJ hR hmo hco
  have HB : Hid (Below w.heap.size w (w.alloc (.cells #[.slice ma c.ms.length mc, .slice ca c.cs.length cc] 26))) := hid_intro ((Below.refl _ _).alloc (Nat.le_refl _) _)
  have HA : Hid (Blk w.heap.size [.slice ma c.ms.length mc, .slice ca c.cs.length cc] (w.alloc (.cells #[.slice ma c.ms.length mc, .slice ca c.cs.length cc] 26))) := hid_intro (Blk.new w _ _)
  generalize hml : c.ms.length = ml at *
  generalize hcl : c.cs.length = cl at *
  have HML := hid_intro hml
  have HCL := hid_intro hcl
  clear hml hcl
  have P1 := hid_intro (fun w => NumR.spec_put (ml : Int) w (by omega))
  have P2 := hid_intro (fun w => NumR.spec_put (cl : Int) w (by omega))
  have HP1 : Hid (numB (ml : Int) = joinB (pA c 0)) := hid_intro (by unfold pA; rw [HML.out, List.take_zero, List.map_nil, List.append_nil, joinB_one])
  have HP2 : Hid (joinB (pA c ml) ++ numB (cl : Int) = joinB (pB c 0)) := hid_intro (by
    unfold pA pB
    rw [HML.out, HCL.out, List.take_of_length_le (l := c.ms) (i := ml) (by have := HML.out; omega), List.take_zero, List.flatMap_nil, List.append_nil, joinB_app _ [numB (cl : Int)], joinB_one])
  have HP3 : Hid (pB c cl = caP c) := hid_intro (by unfold pB caP; rw [List.take_of_length_le (by have := HCL.out; omega)])
  have h2s : (numB (cl : Int)).size ≤ 40 := num_le (by omega) (by omega)
  generalize numB (ml : Int) = T1 at *
  generalize numB (cl : Int) = T2 at *
  have HRD : Hid (joinB (caP c) = joinB (pB c cl)) := hid_intro (by rw [HP3.out])
  generalize joinB (caP c) = R at *
  go_enter Tryd.func35, Tryd.ntmps35
  go_wp2_with fail
  refine (P1.out _).mono ?_
  rintro e w1 ⟨rfl, hb1⟩
  have HB1 := hid_intro (HB.out.trans (hb1.mono HB.out.size))
  have HA1 := hid_intro (HA.out.below hb1)
  have hl1 := HA1.out.1
  have q0 : w1.cell? ⟨w.heap.size, 0, none⟩ = some (.slice ma ml mc) := HA1.out.2 0 (by simp)
  have q1 : w1.cell? ⟨w.heap.size, 1, none⟩ = some (.slice ca cl cc) := HA1.out.2 1 (by simp)
  clear hb1 HB HA
  go_wp2_with fail
  go_loopw [3, 4] (fun x z wr => ∃ (j : Nat) (T : ByteArray), j ≤ ml ∧ x = .string T ∧ z = .int .i64 j ∧ Hid (T = joinB (pA c j)) ∧ Hid (Below w.heap.size w wr) ∧ Hid (Blk w.heap.size [.slice ma ml mc, .slice ca cl cc] wr)) (fun x z _ => ml - (intOf z).toNat)
  case atStart => exact ⟨0, T1, by omega, rfl, rfl, HP1, HB1, HA1⟩
  case round =>
    clear HB1 HA1 hl1 q0 q1
    obtain ⟨j, T, hj, rfl, rfl, HT, HB, HA⟩ := hrel
    have hTs : T.size ≤ 7 * 640 := by rw [HT.out]; exact HPA.out j
    have hl2 := HA.out.1
    by_cases hlt : j < ml
    · obtain ⟨Wo, hWo⟩ : ∃ Wo, Wo = wr := ⟨_, rfl⟩
      subst hWo
      have hlt2 : (j : Int) < (ml : Int) := by omega
      have hjl : j < c.ms.length := by have := HML.out; omega
      have q0 : Wo.cell? ⟨w.heap.size, 0, none⟩ = some (.slice ma ml mc) := HA.out.2 0 (by simp)
      have q1 : Wo.cell? ⟨w.heap.size, 1, none⟩ = some (.slice ca cl cc) := HA.out.2 1 (by simp)
      obtain ⟨b, off, rfl, hbl, ta, tc, c0, c1, c2, c3, c4, c5, hT⟩ := mes_at (HM.out.below HB.out) j hlt
      have hMR := (HMO.out j (by first | exact hjl | exact hlt)).1
      have HC1 : Hid (joinB (pA c (j + 1)) = joinB (pA c j) ++ meBy (c.ms.getD j Me.zero)) := hid_intro (by unfold pA; rw [take_map c.ms meBy Me.zero j hjl, ← List.append_assoc, joinB_app, joinB_one])
      generalize c.ms.getD j Me.zero = m at *
      obtain ⟨⟨b0, b1⟩, b2, b3, b4, b5⟩ := mright_bd hMR
      have HFB := fl_bd m.wh
      have HB5 := hid_intro b5
      have HSZ := hid_intro (fun k => mePk_size hMR k)
      have S1 := hid_intro (fun w => PutTextL.spec_text m.n w (by omega))
      have S2 := hid_intro (fun w => NumR.spec_put m.g w (by omega))
      have S3 := hid_intro (fun w => spec_flag m.wh w)
      have S4 := hid_intro (fun w => NumR.spec_put m.f w (by omega))
      have S5 := hid_intro (fun w => NumR.spec_put m.l w (by omega))
      have S6 := hid_intro (fun w => NumR.spec_put (m.ts.length : Int) w (by omega))
      have HBY : Hid (meBy m = joinB (meH m ++ m.ts.flatMap tiP)) := rfl
      have HH : Hid (meH m = [numB m.n.size ++ m.n, numB m.g, numB (fl m.wh), numB m.f, numB m.l, numB m.ts.length]) := rfl
      have z1 : (numB (m.n.size : Int) ++ m.n).size ≤ 40 := meH_size hMR _ (by rw [HH.out]; simp)
      have z2 : (numB m.g).size ≤ 40 := num_le b2.1 (by omega)
      have z3 : (numB (fl m.wh)).size ≤ 40 := num_le HFB.1 (by omega)
      have z4 : (numB m.f).size ≤ 40 := num_le b3.1 (by omega)
      have z5 : (numB m.l).size ≤ 40 := num_le b4.1 b4.2
      have z6 : (numB (m.ts.length : Int)).size ≤ 40 := num_le (by omega) (by omega)
      clear hMR b0 b2 b3 b4 b5 HFB
      have HTI := hid_intro hT
      clear hT
      generalize meBy m = MB at *
      generalize meH m = MH at *
      obtain ⟨n, g, wh, f, l, ts⟩ := m
      simp only at *
      generalize numB (n.size : Int) ++ n = Y1 at *
      generalize numB g = Y2 at *
      generalize numB (fl wh) = Y3 at *
      generalize fl wh = F3 at *
      generalize numB f = Y4 at *
      generalize numB l = Y5 at *
      generalize numB (ts.length : Int) = Y6 at *
      generalize htl : ts.length = tl at *
      have HTL := hid_intro htl
      clear htl
      have k1 : ¬ 9223372036854775807 < T.size + Y1.size := by omega
      have k2 : ¬ 9223372036854775807 < T.size + Y1.size + Y2.size := by omega
      have k3 : ¬ 9223372036854775807 < T.size + Y1.size + Y2.size + Y3.size := by omega
      have k4 : ¬ 9223372036854775807 < T.size + Y1.size + Y2.size + Y3.size + Y4.size := by omega
      have k5 : ¬ 9223372036854775807 < T.size + Y1.size + Y2.size + Y3.size + Y4.size + Y5.size := by omega
      have k6 : ¬ 9223372036854775807 < T.size + Y1.size + Y2.size + Y3.size + Y4.size + Y5.size + Y6.size := by omega
      have HTS := hid_intro hTs
      clear z1 z2 z3 z4 z5 z6 hTs
      go_wp2_with fail
      have HS0 : Hid (BM Wo Wo.heap.size (.string n) (.int .i64 g) (.bool wh) (.int .i64 f) (.int .i64 l) (.slice ta tl tc) (Wo.alloc (.cells #[.string n, .int .i64 g, .bool wh, .int .i64 f, .int .i64 l, .slice ta tl tc] 37))) := hid_intro ⟨(Below.refl _ _).alloc (Nat.le_refl _) _, by simp, by simp [go_sem], by simp [go_sem], by simp [go_sem], by simp [go_sem], by simp [go_sem], by simp [go_sem]⟩
      have HS1 := hid_intro HS0.out.drew
      go_region_held3 (fun W => Below Wo.heap.size Wo W ∧ Wo.heap.size < W.heap.size ∧ W.cell? ⟨Wo.heap.size, 0, none⟩ = some (.string n) ∧ W.cell? ⟨Wo.heap.size, 1, none⟩ = some (.int .i64 g) ∧ W.cell? ⟨Wo.heap.size, 2, none⟩ = some (.bool wh) ∧ W.cell? ⟨Wo.heap.size, 3, none⟩ = some (.int .i64 f) ∧ W.cell? ⟨Wo.heap.size, 4, none⟩ = some (.int .i64 l) ∧ W.cell? ⟨Wo.heap.size, 5, none⟩ = some (.slice ta tl tc)) (first | assumption | (exact HS0.out) | (exact HS1.out) | (exact BM.below (w := Wo) (B := Wo.heap.size) (by assumption) hb))
        (first | (go_at_call 64; refine (S1.out _).mono ?_; rintro e w' ⟨rfl, hb⟩) | (go_at_call 65; refine (S3.out _).mono ?_; rintro e w' ⟨rfl, hb⟩) | (go_at_call_of 63 (Value.int .i64 g); refine (S2.out _).mono ?_; rintro e w' ⟨rfl, hb⟩) | (go_at_call_of 63 (Value.int .i64 f); refine (S4.out _).mono ?_; rintro e w' ⟨rfl, hb⟩) | (go_at_call_of 63 (Value.int .i64 l); refine (S5.out _).mono ?_; rintro e w' ⟨rfl, hb⟩) | (go_at_call_of 63 (Value.int .i64 (tl : Int)); refine (S6.out _).mono ?_; rintro e w' ⟨rfl, hb⟩))
      rename_i hS
      obtain ⟨W1, hW1⟩ : ∃ W1, W1 = w' := ⟨_, rfl⟩
      rw [← hW1] at hS ⊢
      have HS2 := hid_intro hS
      have g5 : W1.cell? ⟨Wo.heap.size, 5, none⟩ = some (.slice ta tl tc) := hS.2.2.2.2.2.2.2
      have g6 := hS.2.1
      have HX0 : Hid (T ++ Y1 ++ Y2 ++ Y3 ++ Y4 ++ Y5 ++ Y6 = T ++ joinB (MH ++ (ts.take 0).flatMap tiP)) := hid_intro (by rw [app_six, HH.out, List.take_zero, List.flatMap_nil, List.append_nil])
      clear hS HS0 HS1 k1 k2 k3 k4 k5 k6 c0 c1 c2 c3 c4 c5 hW1 q0 q1
      generalize T ++ Y1 ++ Y2 ++ Y3 ++ Y4 ++ Y5 ++ Y6 = X0 at *
      go_wp2_with fail
      go_loopw [3, 6] (fun x z wx => ∃ (k : Nat) (X : ByteArray), k ≤ tl ∧ x = .string X ∧ z = .int .i64 k ∧ Hid (X = T ++ joinB (MH ++ (ts.take k).flatMap tiP)) ∧ Hid (BM Wo Wo.heap.size (.string n) (.int .i64 g) (.bool wh) (.int .i64 f) (.int .i64 l) (.slice ta tl tc) wx)) (fun x z _ => tl - (intOf z).toNat)
      case atStart => exact ⟨0, X0, by omega, rfl, rfl, HX0, HS2⟩
      case round =>
        clear HX0 HS2 g5 g6
        obtain ⟨k, X, hk, rfl, rfl, HX, HS2⟩ := hrel
        have HBW := hid_intro HS2.out.1
        have HBA := hid_intro (HB.out.trans (HS2.out.1.mono HB.out.size))
        have g5 : wr.cell? ⟨Wo.heap.size, 5, none⟩ = some (.slice ta tl tc) := HS2.out.2.2.2.2.2.2.2
        have g6 := HS2.out.2.1
        by_cases hkt : k < tl
        · have hkt2 : (k : Int) < (tl : Int) := by omega
          obtain ⟨b', off', rfl, hbl', d0, d1⟩ := tis_at (HTI.out.below HBW.out) k hkt
          have c0 : wr.cell? ⟨b', off' + k * 2, none⟩ = some (.int .i64 (tU ts k)) := d0
          have c1 : wr.cell? ⟨b', off' + k * 2 + 1, none⟩ = some (.int .i64 (tP ts k)) := d1
          clear d0 d1
          obtain ⟨⟨u1, u2⟩, u3', u4⟩ := HB5.out k (by first | exact hkt | (have := HTL.out; omega))
          have Q1 := hid_intro (fun w => NumR.spec_put (tU ts k) w (by omega))
          have Q2 := hid_intro (fun w => NumR.spec_put (tP ts k) w (by omega))
          have v1 : (numB (tU ts k)).size ≤ 40 := num_le u1 u2
          have v2 : (numB (tP ts k)).size ≤ 40 := num_le u3' (by omega)
          have HC2 : Hid ((ts.take (k + 1)).flatMap tiP = (ts.take k).flatMap tiP ++ [numB (tU ts k), numB (tP ts k)]) := hid_intro (take_flat ts tiP Ti.zero k (by have := HTL.out; omega))
          have hXs : X.size ≤ 7 * 640 + 640 := by rw [HX.out, ByteArray.size_append]; have := HSZ.out k; have := HTS.out; omega
          generalize numB (tU ts k) = X1 at *
          generalize numB (tP ts k) = X2 at *
          generalize tU ts k = U at *
          generalize tP ts k = P at *
          have k1 : ¬ 9223372036854775807 < X.size + X1.size := by omega
          have k2 : ¬ 9223372036854775807 < X.size + X1.size + X2.size := by omega
          clear u1 u2 u3' u4 v1 v2 hXs
          have HAl : Hid (BT wr Wo.heap.size 5 b' (off' + k * 2) (.slice (some ⟨b', off', none⟩) tl tc) (.int .i64 U) (.int .i64 P) wr) := hid_intro ⟨Below.refl _ _, g6, hbl', g5, c0, c1⟩
          have HAd := hid_intro HAl.out.drew
          go_wp2_with fail
          go_region_held3 (fun W => Below wr.heap.size wr W ∧ Wo.heap.size < W.heap.size ∧ b' < W.heap.size ∧ W.cell? ⟨Wo.heap.size, 5, none⟩ = some (.slice (some ⟨b', off', none⟩) tl tc) ∧ W.cell? ⟨b', off' + k * 2, none⟩ = some (.int .i64 U) ∧ W.cell? ⟨b', off' + k * 2 + 1, none⟩ = some (.int .i64 P))
            (first | assumption | (exact HAl.out) | (exact HAd.out) | (exact BT.below (w := wr) (B := Wo.heap.size) (o := 5) (b := b') (f := off' + k * 2) (by assumption) hb1) | (exact BT.below (w := wr) (B := Wo.heap.size) (o := 5) (b := b') (f := off' + k * 2) (by assumption) hb2))
            (first | (go_at_call_of 63 (Value.int .i64 U); refine (Q1.out _).mono ?_; rintro e w1 ⟨rfl, hb1⟩) | (go_at_call_of 63 (Value.int .i64 P); refine (Q2.out _).mono ?_; rintro e w2 ⟨rfl, hb2⟩))
          rename_i hS
          have HS3 := hid_intro (BM.below HS2.out hS.1)
          have HX1 : Hid (X ++ X1 ++ X2 = T ++ joinB (MH ++ (ts.take (k + 1)).flatMap tiP)) := hid_intro (by rw [HC2.out, ← List.append_assoc]; exact app_in T X X1 X2 _ HX.out)
          clear hS k1 k2 HS2
          go_wp2_with fail
          go_roundw
          case rel => exact ⟨k + 1, X ++ X1 ++ X2, by omega, rfl, by go_num, HX1, HS3⟩
          case measure => simp [intOf]; omega
        · obtain rfl : k = tl := by omega
          have HXE : Hid (X = joinB (pA c (j + 1))) := hid_intro (by
            rw [HC1.out, HBY.out, HX.out, HT.out, List.take_of_length_le (by have := HTL.out; omega)])
          have HAE := hid_intro (HA.out.below HBW.out)
          go_wp2_with fail
          go_roundw
          case rel => exact ⟨j + 1, X, by omega, rfl, by go_num, HXE, HBA, HAE⟩
          case measure => simp [intOf]; omega
    · obtain rfl : j = ml := by omega
      have q0 : wr.cell? ⟨w.heap.size, 0, none⟩ = some (.slice ma j mc) := HA.out.2 0 (by simp)
      have q1 : wr.cell? ⟨w.heap.size, 1, none⟩ = some (.slice ca cl cc) := HA.out.2 1 (by simp)
      have k1 : ¬ 9223372036854775807 < T.size + T2.size := by omega
      go_wp2_with fail
      refine (P2.out _).mono ?_
      rintro e w4 ⟨rfl, hb4⟩
      have HB4 := hid_intro (HB.out.trans (hb4.mono HB.out.size))
      have HA4 := hid_intro (HA.out.below hb4)
      have hl4 := HA4.out.1
      have q2 : w4.cell? ⟨w.heap.size, 1, none⟩ = some (.slice ca cl cc) := HA4.out.2 1 (by simp)
      have HX0 : Hid (T ++ T2 = joinB (pB c 0)) := hid_intro (by rw [HT.out]; exact HP2.out)
      clear hb4 q1 q0
      go_wp2_with fail
      go_loopw [3, 7] (fun x z wx => ∃ (i : Nat) (X : ByteArray), i ≤ cl ∧ x = .string X ∧ z = .int .i64 i ∧ Hid (X = joinB (pB c i)) ∧ Hid (Below w.heap.size w wx) ∧ Hid (Blk w.heap.size [.slice ma j mc, .slice ca cl cc] wx)) (fun x z _ => cl - (intOf z).toNat)
      case atStart => exact ⟨0, T ++ T2, by omega, rfl, rfl, HX0, HB4, HA4⟩
      case round =>
        clear HX0 HB4 HA4 hl4 q2 HB HA hl2 k1
        obtain ⟨i, X, hi, rfl, rfl, HX, HB, HA⟩ := hrel
        have hl2 := HA.out.1
        have q1 : wr.cell? ⟨w.heap.size, 1, none⟩ = some (.slice ca cl cc) := HA.out.2 1 (by simp)
        by_cases hit : i < cl
        · have hit2 : (i : Int) < (cl : Int) := by omega
          have hil : i < c.cs.length := by have := HCL.out; omega
          obtain ⟨b', off', rfl, hbl', d0, d1⟩ := crs_at (HJ.out.below HB.out) i hit
          have c0 : wr.cell? ⟨b', off' + i * 2, none⟩ = some (.string (cA c.cs i)) := d0
          have c1 : wr.cell? ⟨b', off' + i * 2 + 1, none⟩ = some (.int .i64 (cM c.cs i)) := d1
          clear d0 d1
          obtain ⟨⟨u1, u2, u3'⟩, _⟩ := HCO.out i (by first | exact hil | exact hit)
          have u4 := (name_le u1).2
          have Q1 := hid_intro (fun w => PutTextL.spec_text (cA c.cs i) w (by omega))
          have Q2 := hid_intro (fun w => NumR.spec_put (cM c.cs i) w (by omega))
          have v1 : (numB ((cA c.cs i).size : Int) ++ cA c.cs i).size ≤ 40 := txt_le u4
          have v2 : (numB (cM c.cs i)).size ≤ 40 := num_le u2 u3'
          have HC1 : Hid (pB c (i + 1) = pB c i ++ [numB ((cA c.cs i).size : Int) ++ cA c.cs i, numB (cM c.cs i)]) := hid_intro (by unfold pB; rw [take_flat c.cs crP Cr.zero i hil, ← List.append_assoc]; rfl)
          have hXs : X.size ≤ 20 * 640 := by rw [HX.out]; exact HPB.out i
          generalize numB ((cA c.cs i).size : Int) ++ cA c.cs i = X1 at *
          generalize numB (cM c.cs i) = X2 at *
          generalize cA c.cs i = U at *
          generalize cM c.cs i = P at *
          have k1 : ¬ 9223372036854775807 < X.size + X1.size := by omega
          have k2 : ¬ 9223372036854775807 < X.size + X1.size + X2.size := by omega
          clear u1 u2 u3' u4 v1 v2 hXs
          have HAl : Hid (BT wr w.heap.size 1 b' (off' + i * 2) (.slice (some ⟨b', off', none⟩) cl cc) (.string U) (.int .i64 P) wr) := hid_intro ⟨Below.refl _ _, hl2, hbl', q1, c0, c1⟩
          have HAd := hid_intro HAl.out.drew
          go_wp2_with fail
          go_region_held3 (fun W => Below wr.heap.size wr W ∧ w.heap.size < W.heap.size ∧ b' < W.heap.size ∧ W.cell? ⟨w.heap.size, 1, none⟩ = some (.slice (some ⟨b', off', none⟩) cl cc) ∧ W.cell? ⟨b', off' + i * 2, none⟩ = some (.string U) ∧ W.cell? ⟨b', off' + i * 2 + 1, none⟩ = some (.int .i64 P))
            (first | assumption | (exact HAl.out) | (exact HAd.out) | (exact BT.below (w := wr) (B := w.heap.size) (o := 1) (b := b') (f := off' + i * 2) (by assumption) hb1) | (exact BT.below (w := wr) (B := w.heap.size) (o := 1) (b := b') (f := off' + i * 2) (by assumption) hb2))
            (first | (go_at_call 64; refine (Q1.out _).mono ?_; rintro e w1 ⟨rfl, hb1⟩) | (go_at_call 63; refine (Q2.out _).mono ?_; rintro e w2 ⟨rfl, hb2⟩))
          rename_i hS
          have HB5 := hid_intro (HB.out.trans (hS.1.mono HB.out.size))
          have HA5 := hid_intro (HA.out.below hS.1)
          have HX1 : Hid (X ++ X1 ++ X2 = joinB (pB c (i + 1))) := hid_intro (by rw [HC1.out]; exact app_two X X1 X2 _ HX.out)
          clear hS k1 k2
          go_wp2_with fail
          go_roundw
          case rel => exact ⟨i + 1, X ++ X1 ++ X2, by omega, rfl, by go_num, HX1, HB5, HA5⟩
          case measure => simp [intOf]; omega
        · obtain rfl : i = cl := by omega
          go_wp2_with fail
          go_ret
          exact ⟨ret_str (by rw [HRD.out]; exact HX.out), HB.out⟩
theorem spec_cab (v : Value) (c : Ca) (w : World) (hS : c.Small) (hC : IsCa v c w) :
    Calls Tryd.prog 11 #[v] w fun e w' => e = .returned (.string (caBy c)) ∧ Below w.heap.size w w' := by
  have HR := hid_intro (fun W (hW : Below w.heap.size w W) => spec_ca v c W hS (hC.below hW))
  have HL := hid_intro (fun (h : caB c = true) W (hW : Below w.heap.size w W) => spec_l05 v c W (hC.below hW) h)
  have HBY : Hid (caBy c = if caB c = true then joinB (caP c) else ⟨#[]⟩) := rfl
  obtain ⟨ma, mc, ca, cc, rfl, hM, hJ⟩ := hC
  clear hM hJ hS
  generalize caB c = r at *
  generalize caBy c = Y at *
  generalize joinB (caP c) = X at *
  have HB : Hid (Below w.heap.size w (w.alloc (.cells #[.slice ma c.ms.length mc, .slice ca c.cs.length cc] 26))) := hid_intro ((Below.refl _ _).alloc (Nat.le_refl _) _)
  have HA : Hid (Blk w.heap.size [.slice ma c.ms.length mc, .slice ca c.cs.length cc] (w.alloc (.cells #[.slice ma c.ms.length mc, .slice ca c.cs.length cc] 26))) := hid_intro (Blk.new w _ _)
  generalize c.ms.length = ml at *
  generalize c.cs.length = cl at *
  go_enter Tryd.func11, Tryd.ntmps11
  go_wp2_with fail
  refine (HR.out _ HB.out).mono ?_
  rintro e w1 ⟨rfl, hb1⟩
  have HB1 := hid_intro (HB.out.trans (hb1.mono HB.out.size))
  have HA1 := hid_intro (HA.out.below hb1)
  have hl1 := HA1.out.1
  have q0 : w1.cell? ⟨w.heap.size, 0, none⟩ = some (.slice ma ml mc) := HA1.out.2 0 (by simp)
  have q1 : w1.cell? ⟨w.heap.size, 1, none⟩ = some (.slice ca cl cc) := HA1.out.2 1 (by simp)
  clear hb1 HB HA
  cases r
  · go_wp2_with fail
    go_ret
    exact ⟨ret_str (by rw [HBY.out]; first | rw [if_neg (by simp)] | rfl), HB1.out⟩
  · have HRR : Hid (Y = X) := hid_intro (by rw [HBY.out]; (first | rw [if_pos rfl] | rw [if_pos trivial]))
    go_wp2_with fail
    refine (HL.out (by first | exact rfl | trivial) _ HB1.out).mono ?_
    rintro e w2 ⟨rfl, hb2⟩
    have HB2 := hid_intro (HB1.out.trans (hb2.mono HB1.out.size))
    clear hb2
    go_wp2_with fail
    go_ret
    exact ⟨ret_str HRR.out.symm, HB2.out⟩
end CatR
end Go.Proofs.YtaedolophhcjjaaDoor
namespace Go.Proofs.YtaedolophhcjjaaDoor
open Go.ChangeShapes Go.WideShapes Go.ChangeAt Go.RowKit
set_option linter.unusedVariables false
namespace DocR
open JoinR (joinB jl)
open CatR (Blk)
theorem own_drew {w : World} {base e size n : Nat} {v : Value} {xs : List Value} (h : w.ownsRow base e size v n xs) : w.drew.ownsRow base e size v n xs := h
theorem step_append_own {P : Program} {w : World} {ops : Array Oper} {o : Oper} {a : Act} {K : Act → World → Prop} {Q : Exit → Act → World → Prop} {E : Prop} (hgd : o.guard = none) (s x : Operand) (t : TypeId)
    (ho : o.op = .call { callee := .builtin .append, args := #[s, x], argTypes := #[t, t] })
    (base : Nat) (e : TypeId) (i : TypeInfo) (z : Value) (size bytes : Nat) (ht : P.underlying t = some (.slice e)) (hi : P.info? e = some i) (hz : i.zero = some z)
    (hsize : i.size = size) (hby : i.bytes = bytes) (hzs : z.cells.size = size) (hsz : 0 < size)
    (v : Value) (n : Nat) (xs : List Value) (hs : a.eval s = v) (hown : w.ownsRow base e size v n xs)
    (ad : Addr) (m c : Nat) (news : List Value) (hx : a.eval x = .slice (some ad) m c) (hl : news.length = m * size) (hnews : ∀ j u, news[j]? = some u → w.cell? (ad.add j) = some u) (h1 : ∀ u ∈ news, u.oneCell' = true)
    (h63 : n + m ≤ maxLen) (hbytes : (n + m) * bytes ≤ 140737488355328) (hbase : base ≤ w.heap.size)
    (h : ∀ v' w', w'.ownsRow base e size v' (n + m) (xs ++ news) → w.grownBy w' v.ownBlock → (v' = .slice none 0 0 ↔ v = .slice none 0 0 ∧ m = 0) → K (a.put o.dst v') w') : if Region.wanted o (yielded ops a.tmps) = true then Oper.wp P o a w K Q else E := by
  have hw : Region.wanted o (yielded ops a.tmps) = true := by simp [Region.wanted, hgd]
  rw [if_pos hw]
  exact wp_append_own w s x t ho base e i z size bytes ht hi hz hsize hby hzs hsz v n xs hs hown ad m c news hx hl hnews h1 h63 hbytes hbase h
theorem own_base {w : World} {base e size n : Nat} {v : Value} {xs : List Value} (h : w.ownsRow base e size v n xs) (hv : v ≠ .slice none 0 0) : base ≤ w.heap.size := by
  rcases h.2 with ⟨h0, _⟩ | ⟨g, cap, cur, h1, h2, hg, _⟩
  · exact absurd h0 hv
  · have := (Array.getElem?_eq_some_iff.1 hg).1
    omega
theorem two_cells (w : World) (x y : ByteArray) (T : TypeId) : ∀ j u, [Value.string x, Value.string y][j]? = some u → (w.alloc (.cells #[.string x, .string y] T)).cell? ((⟨w.heap.size, 0, none⟩ : Addr).add j) = some u := by
  intro j u hj
  match j, hj with
  | 0, hj => simp at hj; subst hj; simp [Addr.add]
  | 1, hj => simp at hj; subst hj; simp [Addr.add, go_sem]
theorem two_one (x y : ByteArray) : ∀ u ∈ [Value.string x, Value.string y], u.oneCell' = true := by
  intro u hu
  simp at hu
  rcases hu with rfl | rfl <;> rfl
theorem one_cell (w : World) (x : ByteArray) (T : TypeId) : ∀ j u, [Value.string x][j]? = some u → (w.alloc (.cells #[.string x] T)).cell? ((⟨w.heap.size, 0, none⟩ : Addr).add j) = some u := by
  intro j u hj
  match j, hj with
  | 0, hj => simp at hj; subst hj; simp [Addr.add]
theorem one_one (x : ByteArray) : ∀ u ∈ [Value.string x], u.oneCell' = true := by
  intro u hu
  simp at hu
  subst hu; rfl
theorem blk_grown {b : Nat} {cs : List Value} {w w' : World} {row : Option Nat} (h : Blk b cs w) (hg : w.grownBy w' row) (hne : some b ≠ row) : Blk b cs w' := by
  have e := hg.block b h.1 hne
  exact ⟨by have := hg.size; have := h.1; omega, fun i hi => (World.cell?_of_block (a := ⟨b, i, none⟩) e).trans (h.2 i hi)⟩
theorem four_cells (w : World) (x y z u : ByteArray) (T : TypeId) : ∀ j v, [Value.string x, Value.string y, Value.string z, Value.string u][j]? = some v → (w.alloc (.cells #[.string x, .string y, .string z, .string u] T)).cell? ((⟨w.heap.size, 0, none⟩ : Addr).add j) = some v := by
  intro j v hj
  match j, hj with
  | 0, hj => simp at hj; subst hj; simp [Addr.add]
  | 1, hj => simp at hj; subst hj; simp [Addr.add, go_sem]
  | 2, hj => simp at hj; subst hj; simp [Addr.add, go_sem]
  | 3, hj => simp at hj; subst hj; simp [Addr.add, go_sem]
theorem four_one (x y z u : ByteArray) : ∀ v ∈ [Value.string x, Value.string y, Value.string z, Value.string u], v.oneCell' = true := by
  intro v hv
  simp at hv
  rcases hv with rfl | rfl | rfl | rfl <;> rfl
theorem joinB_app (a b : List ByteArray) : joinB (a ++ b) = joinB a ++ joinB b := by
  apply ByteArray.ext
  simp [joinB]
theorem joinB_one (x : ByteArray) : joinB [x] = x := by
  apply ByteArray.ext
  simp [joinB]
theorem joinB_two (x y : ByteArray) : joinB [x, y] = x ++ y := by
  apply ByteArray.ext
  simp [joinB]
theorem jl_size (l : List ByteArray) : (jl l l.length).length = (joinB l).size := by
  rw [JoinR.jl_all]
  show _ = (List.toArray _).size
  rw [List.size_toArray]
theorem take_flat {α : Type} (l : List α) (f : α → List ByteArray) (d : α) (k : Nat) (h : k < l.length) : (l.take (k + 1)).flatMap f = (l.take k).flatMap f ++ f (l.getD k d) := by
  rw [List.take_add_one, List.getElem?_eq_getElem h, List.flatMap_append]
  simp [List.getD, h]
theorem take_map {α : Type} (l : List α) (f : α → ByteArray) (d : α) (k : Nat) (h : k < l.length) : (l.take (k + 1)).map f = (l.take k).map f ++ [f (l.getD k d)] := by
  rw [List.take_add_one, List.getElem?_eq_getElem h, List.map_append]
  simp [List.getD, h]
theorem join_size_le (K : Nat) : ∀ l : List ByteArray, (∀ x ∈ l, x.size ≤ K) → (joinB l).size ≤ l.length * K
  | [], _ => by show 0 ≤ _; exact Nat.zero_le _
  | x :: l, h => by
    have h1 := join_size_le K l (fun y hy => h y (List.mem_cons_of_mem _ hy))
    have h2 := h x (List.mem_cons_self ..)
    have e : joinB (x :: l) = x ++ joinB l := by
      have := joinB_app [x] l
      rw [joinB_one] at this
      exact this
    rw [e, ByteArray.size_append, List.length_cons, Nat.add_mul]
    omega
theorem infoS : (Tryd.prog.info? 9).map (fun i => (i.zero, i.size, i.bytes)) = some (some (.string ⟨#[]⟩), 1, 16) := by kernel_rfl
theorem own_below {w w' : World} {base e size n : Nat} {v : Value} {xs : List Value} (h : w.ownsRow base e size v n xs) (hb : Below w.heap.size w w') : w'.ownsRow base e size v n xs := by
  refine ⟨h.1, ?_⟩
  rcases h.2 with hn | ⟨g, cap, cur, rfl, h1, hg, rest⟩
  · exact .inl hn
  · exact .inr ⟨g, cap, cur, rfl, h1, (hb.block g (Array.getElem?_eq_some_iff.1 hg).1).trans hg, rest⟩
theorem own_texts {w : World} {base n : Nat} {v : Value} {xs : List ByteArray} (h : w.ownsRow base 9 1 v n (xs.map Value.string)) (hne : v ≠ .slice none 0 0) :
    ∃ g cap, v = .slice (some ⟨g, 0, none⟩) n cap ∧ g < w.heap.size ∧ xs.length = n ∧ n ≤ cap ∧ ∀ k (hk : k < xs.length), w.cell? ⟨g, k, none⟩ = some (.string xs[k]) := by
  have hl := h.1
  have hlen : xs.length = n := by simpa using hl
  rcases h.2 with ⟨h0, _⟩ | ⟨g, cap, cur, hv, _, _, hc, _⟩
  · exact absurd h0 hne
  · refine ⟨g, cap, hv, (h.lt g (by rw [hv]; rfl)).2, hlen, hc, fun k hk => ?_⟩
    have := h.cells (g := g) (by rw [hv]; rfl) k (.string xs[k]) (by simp [List.getElem?_map, List.getElem?_eq_getElem hk])
    rw [← this]
    congr 1
    unfold Addr.add; split <;> simp_all
/-- What is held while a pair's fields are put. -/
def BM2 (w : World) (B : Nat) (a0 a1 : Value) (W : World) : Prop := Below w.heap.size w W ∧ B < W.heap.size ∧ W.cell? ⟨B, 0, none⟩ = some a0 ∧ W.cell? ⟨B, 1, none⟩ = some a1
theorem BM2.below {w : World} {B : Nat} {a0 a1 : Value} {W W' : World} (h : BM2 w B a0 a1 W) (hb : Below W.heap.size W W') : BM2 w B a0 a1 W' := by
  obtain ⟨h0, l1, p0, p1⟩ := h
  have f := fun o => hb.cell (p := ⟨B, o, none⟩) l1
  have hs := hb.size
  exact ⟨h0.trans (hb.mono h0.size), by omega, (f 0).trans p0, (f 1).trans p1⟩
theorem BM2.drew {w : World} {B : Nat} {a0 a1 : Value} {W : World} (h : BM2 w B a0 a1 W) : BM2 w B a0 a1 W.drew := ⟨h.1.drew, h.2⟩
theorem BM2.grown {w : World} {B : Nat} {a0 a1 : Value} {W W' : World} {v : Value} {wr : World} {base e size n : Nat} {xs : List Value} (h : BM2 w B a0 a1 W) (hg : W.grownBy W' v.ownBlock) (ho : wr.ownsRow base e size v n xs) (hB : B = wr.heap.size := by rfl) (hbase : w.heap.size ≤ base := by omega) : BM2 w B a0 a1 W' := by
  obtain ⟨h0, l1, p0, p1⟩ := h
  have hne : some B ≠ v.ownBlock := fun e => by have := (ho.lt B e.symm).2; omega
  have e := hg.block B l1 hne
  exact ⟨h0.grown hg h0.size (fun k e => by have := (ho.lt k e).1; omega), by have := hg.size; omega, (World.cell?_of_block (a := ⟨B, 0, none⟩) e).trans p0, (World.cell?_of_block (a := ⟨B, 1, none⟩) e).trans p1⟩
end DocR
end Go.Proofs.YtaedolophhcjjaaDoor
namespace Go.Proofs.YtaedolophhcjjaaDoor
open Go
/-- As Q; by a goto to a label l: J l. -/
def jumps (J : Nat → Act → World → Prop) (Q : Exit → Act → World → Prop) : Exit → Act → World → Prop
  | .goto l, a, w => J l a w
  | e, a, w => Q e a w
theorem jumps_ret {J : Nat → Act → World → Prop} {Q : Exit → Act → World → Prop} {a : Act} {w : World} : jumps J Q .ret a w = Q .ret a w := rfl
theorem jumps_goto {J : Nat → Act → World → Prop} {Q : Exit → Act → World → Prop} {a : Act} {w : World} {l : Nat} : jumps J Q (.goto l) a w = J l a w := rfl
theorem wp_scope_multi {P : Program} {a : Act} {w : World} {Q : Exit → Act → World → Prop} {c : Code} (J : Nat → Act → World → Prop) (μ : Nat → Act → World → Nat)
    (first : c.wp P (jumps J Q) a w)
    (pass : ∀ l a w, J l a w → ∃ rest, findLabel c l = some rest ∧ rest.wp P (jumps (fun l' a' w' => J l' a' w' ∧ μ l' a' w' < μ l a w) Q) a w) : (Code.scope c).wp P Q a w := by
  intro b k cs
  have key : ∀ n l a w, μ l a w = n → J l a w → ∃ rest, findLabel c l = some rest ∧ ∃ e a' w', Q e a' w' ∧ Arrives P (lone (b.at a (.code rest :: .inScope c :: k)) cs w) b k cs e a' w' := by
    intro n
    induction n using Nat.strongRecOn with
    | _ n ih =>
      intro l a w hn hJ
      obtain ⟨rest, hf, hp⟩ := pass l a w hJ
      refine ⟨rest, hf, ?_⟩
      obtain ⟨e, a₁, w₁, hq, harr⟩ := hp b (.inScope c :: k) cs
      cases e with
      | normal => exact ⟨.normal, a₁, w₁, hq, Steps.trans harr (.one step_inScope)⟩
      | exit id => exact ⟨.exit id, a₁, w₁, hq, fun k' hk => harr k' (by simp [exitTo, hk])⟩
      | goto l' =>
        obtain ⟨hJ', hlt⟩ := hq
        obtain ⟨rest', hf', e₂, a₂, w₂, hq₂, harr₂⟩ := ih _ (by omega) l' a₁ w₁ rfl hJ'
        have hg : gotoIn l' (.inScope c :: k) = some (.code rest' :: .inScope c :: k) := by simp [gotoIn, hf']
        exact ⟨e₂, a₂, w₂, hq₂, .of_steps (harr _ hg) harr₂⟩
      | ret => exact ⟨_, a₁, w₁, hq, harr⟩
      | panic ch => exact ⟨_, a₁, w₁, hq, harr⟩
      | outgrown => exact ⟨_, a₁, w₁, hq, harr⟩
  obtain ⟨e, a₁, w₁, hq, harr⟩ := first b (.inScope c :: k) cs
  cases e with
  | normal => exact ⟨.normal, a₁, w₁, hq, .head step_scope (Steps.trans harr (.one step_inScope))⟩
  | exit id => exact ⟨.exit id, a₁, w₁, hq, fun k' hk => .head step_scope (harr k' (by simp [exitTo, hk]))⟩
  | goto l' =>
    obtain ⟨rest', hf', e₂, a₂, w₂, hq₂, harr₂⟩ := key _ l' a₁ w₁ rfl hq
    have hg : gotoIn l' (.inScope c :: k) = some (.code rest' :: .inScope c :: k) := by simp [gotoIn, hf']
    exact ⟨e₂, a₂, w₂, hq₂, .of_steps (.head step_scope (harr _ hg)) harr₂⟩
  | ret => exact ⟨_, a₁, w₁, hq, .of_steps (.one step_scope) harr⟩
  | panic ch => exact ⟨_, a₁, w₁, hq, .of_steps (.one step_scope) harr⟩
  | outgrown => exact ⟨_, a₁, w₁, hq, .of_steps (.one step_scope) harr⟩
end Go.Proofs.YtaedolophhcjjaaDoor
namespace Go.Proofs.YtaedolophhcjjaaDoor
open Go.RowKit
namespace GetR
theorem hid_intro {p : Prop} (h : p) : Hid p := h
def rd (s : ByteArray) (p : Nat) : Nat → Nat → Nat → Nat × Nat × Nat
  | 0, _, _ => (3, 0, 0)
  | f + 1, i, u =>
    if h : p + i < s.size then
      if i = 9 ∧ 1 < s[p + i].toNat then (3, 0, 0)
      else if s[p + i].toNat < 128 then (if s[p + i].toNat = 0 ∧ 0 < i then (3, 0, 0) else (0, u + s[p + i].toNat % 128 * 2 ^ (7 * i), i + 1))
      else rd s p f (i + 1) (u + s[p + i].toNat % 128 * 2 ^ (7 * i))
    else (4, 0, 0)
theorem rd_short {s : ByteArray} {p f i u : Nat} (h : s.size ≤ p + i) : rd s p (f + 1) i u = (4, 0, 0) := by
  rw [rd, dif_neg (by omega)]
theorem rd_nine {s : ByteArray} {p f i u : Nat} (h : p + i < s.size) (h9 : i = 9) (hc : 1 < s[p + i].toNat) : rd s p (f + 1) i u = (3, 0, 0) := by
  rw [rd, dif_pos h, if_pos ⟨h9, hc⟩]
theorem rd_zero {s : ByteArray} {p f i u : Nat} (h : p + i < s.size) (hc : s[p + i].toNat = 0) (hi : 0 < i) : rd s p (f + 1) i u = (3, 0, 0) := by
  rw [rd, dif_pos h, if_neg (by omega), if_pos (by omega), if_pos ⟨hc, hi⟩]
theorem rd_last {s : ByteArray} {p f i u : Nat} (h : p + i < s.size) (h9 : ¬ (i = 9 ∧ 1 < s[p + i].toNat)) (hc : s[p + i].toNat < 128) (hz : ¬ (s[p + i].toNat = 0 ∧ 0 < i)) :
    rd s p (f + 1) i u = (0, u + s[p + i].toNat % 128 * 2 ^ (7 * i), i + 1) := by
  rw [rd, dif_pos h, if_neg h9, if_pos hc, if_neg hz]
theorem rd_more {s : ByteArray} {p f i u : Nat} (h : p + i < s.size) (h9 : i ≠ 9) (hc : 128 ≤ s[p + i].toNat) :
    rd s p (f + 1) i u = rd s p f (i + 1) (u + s[p + i].toNat % 128 * 2 ^ (7 * i)) := by
  rw [rd, dif_pos h, if_neg (by omega), if_neg (by omega)]
/-- What is read in all, and what is still to be read behind k bytes, are one. -/
def RdI (s : ByteArray) (p k u : Nat) : Prop := k ≤ 9 ∧ u < 2 ^ (7 * k) ∧ rd s p 10 0 0 = rd s p (9 - k + 1) k u
theorem rdI_zero (s : ByteArray) (p : Nat) : RdI s p 0 0 := ⟨by omega, by simp, rfl⟩
theorem grow7 {u k c : Nat} (h : u < 2 ^ (7 * k)) (hc : c ≤ 127) : u + c * 2 ^ (7 * k) < 2 ^ (7 * (k + 1)) := by
  have e : 2 ^ (7 * (k + 1)) = 128 * 2 ^ (7 * k) := by rw [show 7 * (k + 1) = 7 * k + 7 from by omega, Nat.pow_add, Nat.mul_comm]
  have : c * 2 ^ (7 * k) ≤ 127 * 2 ^ (7 * k) := Nat.mul_le_mul_right _ hc
  omega
theorem pow7 {k : Nat} (h : k ≤ 9) : 2 ^ (7 * k) ≤ 9223372036854775808 := by
  have := Nat.pow_le_pow_right (show 0 < 2 by omega) (show 7 * k ≤ 63 by omega)
  exact this
theorem rdI_more {s : ByteArray} {p k u : Nat} (h : RdI s p k u) (hp : p + k < s.size) (h9 : k ≠ 9) (hc : 128 ≤ s[p + k].toNat) : RdI s p (k + 1) (u + s[p + k].toNat % 128 * 2 ^ (7 * k)) := by
  refine ⟨by have := h.1; omega, grow7 h.2.1 (by omega), ?_⟩
  rw [h.2.2, rd_more hp h9 hc]
  congr 1
  have := h.1
  omega
theorem top64 {s : ByteArray} {p k u : Nat} (h : RdI s p k u) (hp : p + k < s.size) (h9 : ¬ (k = 9 ∧ 1 < s[p + k].toNat)) : u + s[p + k].toNat % 128 * 2 ^ (7 * k) < 18446744073709551616 := by
  by_cases e : k = 9
  · subst e
    have h1 : u < 9223372036854775808 := h.2.1
    have h2 : s[p + 9].toNat % 128 * 2 ^ (7 * 9) ≤ 1 * 9223372036854775808 := Nat.mul_le_mul (by omega) (Nat.le_refl _)
    omega
  · have := grow7 h.2.1 (show s[p + k].toNat % 128 ≤ 127 by omega)
    have := pow7 (show k + 1 ≤ 9 by have := h.1; omega)
    omega
/-- A folded number, unfolded. -/
def unz (u : Nat) : Int := if u % 2 = 1 then -((u / 2 : Nat) : Int) - 1 else ((u / 2 : Nat) : Int)
theorem unz_odd {u : Nat} (h : u % 2 = 1) : unz u = -((u / 2 : Nat) : Int) - 1 := if_pos h
theorem unz_even {u : Nat} (h : u % 2 = 0) : unz u = ((u / 2 : Nat) : Int) := if_neg (by omega)
theorem u64wrap (n : Int) : IntKind.u64.wrap n = n % 18446744073709551616 := by simp [IntKind.wrap, IntKind.bits, IntKind.signed]
theorem xor_ones (x : Int) (h0 : 0 ≤ x) (h1 : x ≤ 18446744073709551615) : bits .xor .u64 IntKind.u64.max x = 18446744073709551615 - x := by
  have hm : BitVec.ofInt 64 IntKind.u64.max = BitVec.allOnes 64 := by decide
  have hx : (BitVec.ofInt 64 x).toNat = x.toNat := by
    rw [BitVec.toNat_ofInt]; congr 1; exact Int.emod_eq_of_lt h0 (by omega)
  show IntKind.u64.wrap ((BitVec.ofInt 64 IntKind.u64.max ^^^ BitVec.ofInt 64 x).toNat : Int) = _
  rw [hm, BitVec.allOnes_xor, BitVec.toNat_not, hx, u64wrap]
  omega
theorem and127 (c : Nat) (h : c < 256) : bits .and .u8 (c : Int) 127 = ((c % 128 : Nat) : Int) := by
  have := u8_and_nat c 127 (by omega) (by omega)
  rw [show ((127 : Nat) : Int) = 127 from rfl] at this
  rw [this]
  congr 1
  exact Nat.and_two_pow_sub_one_eq_mod c 7
/-- What the program's round adds: its 'or' is a plus. -/
theorem or_plus {s : ByteArray} {p k u : Nat} (h : RdI s p k u) (hp : p + k < s.size) (h9 : ¬ (k = 9 ∧ 1 < s[p + k].toNat)) :
    bits .or .u64 (u : Int) (IntKind.u64.wrap (IntKind.u64.wrap (bits .and .u8 (s[p + k].toNat : Int) 127) * 2 ^ (7 * k))) = ((u + s[p + k].toNat % 128 * 2 ^ (7 * k) : Nat) : Int) := by
  have ht := top64 h hp h9
  have hc : s[p + k].toNat < 256 := UInt8.toNat_lt s[p + k]
  obtain ⟨c, hcc⟩ : ∃ c, c = s[p + k].toNat := ⟨_, rfl⟩
  rw [← hcc] at ht hc ⊢
  rw [and127 c hc]
  obtain ⟨q, hq⟩ : ∃ q, q = 2 ^ (7 * k) := ⟨_, rfl⟩
  have e2 : ((2 : Int) ^ (7 * k)) = ((2 ^ (7 * k) : Nat) : Int) := by simp
  have hu := h.2.1
  rw [e2]
  rw [← hq] at ht ⊢
  have e3 : IntKind.u64.wrap ((c % 128 : Nat) : Int) = ((c % 128 : Nat) : Int) := by rw [u64wrap]; omega
  have e4 : ((c % 128 : Nat) : Int) * ((q : Nat) : Int) = ((c % 128 * q : Nat) : Int) := by simp
  have e5 : IntKind.u64.wrap ((c % 128 * q : Nat) : Int) = ((c % 128 * q : Nat) : Int) := by rw [u64wrap]; omega
  rw [e3, e4, e5]
  rw [u64_or_nat u (c % 128 * q) (by omega) (by omega)]
  congr 1
  rw [Nat.or_comm, nat_join (7 * k) (c % 128 * q) u (by rw [← hq]; exact Nat.mul_mod_left _ _) hu]
  omega
theorem or_plus9 {s : ByteArray} {p u : Nat} (h : RdI s p 9 u) (hp : p + 9 < s.size) (h9 : ¬ (1 < s[p + 9].toNat)) :
    bits .or .u64 (u : Int) (IntKind.u64.wrap (IntKind.u64.wrap (bits .and .u8 (s[p + 9].toNat : Int) 127) * 9223372036854775808)) = ((u + s[p + 9].toNat % 128 * 2 ^ (7 * 9) : Nat) : Int) :=
  or_plus h hp (by omega)
end GetR
end Go.Proofs.YtaedolophhcjjaaDoor
namespace Go.Proofs.YtaedolophhcjjaaDoor
open Go.ChangeShapes Go.WideShapes Go.ChangeAt Go.RowKit
open Go.ChangeMaps (open_string shut_string)
set_option linter.unusedVariables false
namespace GetR
theorem and1 (u : Nat) (h : u < 18446744073709551616) : bits .and .u64 (u : Int) 1 = ((u % 2 : Nat) : Int) := by
  have := u64_and_nat u 1 h (by omega)
  rw [show ((1 : Nat) : Int) = 1 from rfl] at this
  rw [this]
  congr 1
  exact Nat.and_two_pow_sub_one_eq_mod u 1
theorem neg_bits (u : Nat) (h : u < 18446744073709551616) : wrap64 (bits .xor .u64 IntKind.u64.max ((u : Int) / 2)) = -((u / 2 : Nat) : Int) - 1 := by
  rw [xor_ones _ (by omega) (by omega)]; simp only [wrap64]; omega
theorem unfold_any (u : Nat) (w : World) (h : u < 18446744073709551616) :
    Calls Tryd.prog 77 #[.int .u64 u] w fun e w' => e = .returned (.int .i64 (unz u)) ∧ w' = w := by
  have h1 := and1 u h
  by_cases ho : u % 2 = 1
  · have hq : (bits .and .u64 (u : Int) 1 == 1) = true := by rw [h1, ho]; rfl
    have HN : Hid (wrap64 (bits .xor .u64 IntKind.u64.max ((u : Int) / 2)) = unz u) := (show _ = _ by rw [unz_odd ho]; exact neg_bits u h)
    have hu : (u : Int) ≤ 18446744073709551615 := by omega
    clear h1 ho h
    go_enter Tryd.func77, Tryd.ntmps77
    go_wp2
    go_ret
    exact ⟨ret_int HN.out, rfl⟩
  · have hq : (bits .and .u64 (u : Int) 1 == 1) = false := by rw [h1, show u % 2 = 0 by omega]; rfl
    have HN : Hid ((u : Int) / 2 = unz u) := (show _ = _ by rw [unz_even (by omega)]; omega)
    have hu : (u : Int) ≤ 18446744073709551615 := by omega
    clear h1 ho h
    go_enter Tryd.func77, Tryd.ntmps77
    go_wp2
    go_ret
    exact ⟨ret_int HN.out, rfl⟩
/-- What holds at the jumps: 0 'wrong', 1 'more', 2 'last'. -/
def Jmp (s : ByteArray) (p : Nat) (w : World) (l : Nat) (a : Act) (w' : World) : Prop :=
  (l = 0 ∧ ∃ (c : Nat) (x1 x7 x8 x9 u11 u12 u13 u14 u15 u16 u17 u18 u19 u20 u21 u22 u23 u24 u25 u26 u27 u28 u29 u30 u31 u32 u33 u34 u35 u36 u37 u38 u39 u40 u41 u42 u43 u44 u45 u46 u47 u48 u49 u50 u51 u52 : Value), a = { tmps := #[Value.string s, x1, undef, undef, Value.int .i64 0, Value.int .i64 0, Value.nilIface, x7, x8, x9, Value.pointer (some ⟨w.heap.size, 0, none⟩), u11, u12, u13, u14, u15, u16, u17, u18, u19, u20, u21, u22, u23, u24, u25, u26, u27, u28, u29, u30, u31, u32, u33, u34, u35, u36, u37, u38, u39, u40, u41, u42, u43, u44, u45, u46, u47, u48, u49, u50, u51, u52], defers := [] } ∧ w' = w.alloc (.cells #[.int .i64 c] 110) ∧ Hid (rd s p 10 0 0 = (c, 0, 0) ∧ c ≠ 0)) ∨
  (l = 1 ∧ ∃ (k u : Nat) (x1 xu x9 : Int) (x8 u11 u12 u13 u14 u15 u16 u17 u18 u19 u20 u21 u22 u23 u24 u25 u26 u27 u28 u29 u30 u31 u32 u33 u34 u35 u36 u37 u38 u39 u40 u41 u42 u43 u44 u45 u46 u47 u48 u49 u50 u51 u52 : Value), a = { tmps := #[Value.string s, Value.int .i64 x1, undef, undef, Value.int .i64 0, Value.int .i64 0, Value.nilIface, Value.int .u64 xu, x8, Value.int .i64 x9, Value.pointer (some ⟨w.heap.size, 0, none⟩), u11, u12, u13, u14, u15, u16, u17, u18, u19, u20, u21, u22, u23, u24, u25, u26, u27, u28, u29, u30, u31, u32, u33, u34, u35, u36, u37, u38, u39, u40, u41, u42, u43, u44, u45, u46, u47, u48, u49, u50, u51, u52], defers := [] } ∧ w' = w.alloc (.cells #[.int .i64 3] 110) ∧ Hid (RdI s p k u) ∧ k ≤ 9 ∧ p + k ≤ s.size ∧ x1 = (p : Int) + k ∧ xu = u ∧ x9 = 7 * (k : Int)) ∨
  (l = 2 ∧ ∃ (k u c : Nat) (x1 xu xc x9 : Int) (u11 u12 u13 u14 u15 u16 u17 u18 u19 u20 u21 u22 u23 u24 u25 u26 u27 u28 u29 u30 u31 u32 u33 u34 u35 u36 u37 u38 u39 u40 u41 u42 u43 u44 u45 u46 u47 u48 u49 u50 u51 u52 : Value), a = { tmps := #[Value.string s, Value.int .i64 x1, undef, undef, Value.int .i64 0, Value.int .i64 0, Value.nilIface, Value.int .u64 xu, Value.int .u8 xc, Value.int .i64 x9, Value.pointer (some ⟨w.heap.size, 0, none⟩), u11, u12, u13, u14, u15, u16, u17, u18, u19, u20, u21, u22, u23, u24, u25, u26, u27, u28, u29, u30, u31, u32, u33, u34, u35, u36, u37, u38, u39, u40, u41, u42, u43, u44, u45, u46, u47, u48, u49, u50, u51, u52], defers := [] } ∧ w' = w.alloc (.cells #[.int .i64 3] 110) ∧ Hid (rd s p 10 0 0 = if c = 0 ∧ 0 < k then (3, 0, 0) else (0, u, k + 1)) ∧ k ≤ 9 ∧ p + k < s.size ∧ c < 128 ∧ u < 18446744073709551616 ∧ x1 = (p : Int) + k + 1 ∧ xu = u ∧ xc = c ∧ x9 = 7 * (k : Int))
theorem rd_step {s : ByteArray} {p k u : Nat} (h : RdI s p k u) (hp : p + k < s.size) (h9 : ¬ (k = 9 ∧ 1 < s[p + k].toNat)) (hc : s[p + k].toNat < 128) :
    rd s p 10 0 0 = if s[p + k].toNat = 0 ∧ 0 < k then (3, 0, 0) else (0, u + s[p + k].toNat % 128 * 2 ^ (7 * k), k + 1) := by
  rw [h.2.2]
  split
  · next hz => exact rd_zero hp hz.1 hz.2
  · next hz => exact rd_last hp h9 hc hz
theorem or_plus0 {s : ByteArray} {p : Nat} (hp : p < s.size) :
    bits .or .u64 0 (IntKind.u64.wrap (IntKind.u64.wrap (bits .and .u8 (s[p].toNat : Int) 127))) = ((0 + s[p + 0].toNat % 128 * 2 ^ (7 * 0) : Nat) : Int) := by
  have := or_plus (rdI_zero s p) (show p + 0 < s.size from hp) (by omega)
  simpa using this
theorem ret_fault {a b : Int} {T : TypeId} (h : a = b) : Ending.returned (.tuple #[.int .i64 0, .int .i64 0, .iface T (.agg #[.int .i64 a])]) = .returned (.tuple #[.int .i64 0, .int .i64 0, .iface T (.agg #[.int .i64 b])]) := by rw [h]
theorem ret_got {a b c d : Int} (h1 : a = b) (h2 : c = d) : Ending.returned (.tuple #[.int .i64 a, .int .i64 c, .nilIface]) = .returned (.tuple #[.int .i64 b, .int .i64 d, .nilIface]) := by rw [h1, h2]
def lab (l : Nat) (a : Act) (_ : World) : Nat := match l with | 0 => 0 | 1 => 100 - (intOf (a.tmps.getD 9 undef)).toNat | _ => 1
/-- What the call hands back, of what is read. -/
def Told (w : World) (p : Nat) (r : Nat × Nat × Nat) (e : Ending) (w' : World) : Prop :=
  (r.1 = 0 → e = .returned (.tuple #[.int .i64 (unz r.2.1), .int .i64 ((p : Int) + r.2.2), .nilIface])) ∧
  (r.1 ≠ 0 → e = .returned (.tuple #[.int .i64 0, .int .i64 0, .iface 110 (.agg #[.int .i64 r.1])])) ∧ Below w.heap.size w w'
set_option maxRecDepth 100000 in
set_option maxHeartbeats 4000000 in
theorem read_any (s : ByteArray) (p : Nat) (w : World) (hs : s.size ≤ 8000) (hm : (p : Int) ≤ 9223372036854775807) :
    Calls Tryd.prog 74 #[.string s, .int .i64 p] w fun e w' => Told w p (rd s p 10 0 0) e w' := by
  go_enter Tryd.func74, Tryd.ntmps74
  go_wp2
  refine wp_scope_multi (Jmp s p w) lab ?_ ?_
  · go_wp2
    go_step3
    by_cases hp : (p : Int) < s.size
    · have hb : 0 ≤ (s[p].toNat : Int) := by omega
      have hb2 : (s[p].toNat : Int) ≤ 255 := by have := UInt8.toNat_lt s[p]; omega
      have hp0 : p + 0 < s.size := by omega
      have HO : Hid (bits .or .u64 0 (IntKind.u64.wrap (IntKind.u64.wrap (bits .and .u8 (s[p].toNat : Int) 127))) = ((0 + s[p + 0].toNat % 128 * 2 ^ (7 * 0) : Nat) : Int)) := or_plus0 (by omega)
      have HT : Hid (0 + s[p + 0].toNat % 128 * 2 ^ (7 * 0) < 18446744073709551616) := top64 (rdI_zero s p) hp0 (by omega)
      by_cases hc : (s[p].toNat : Int) < 128
      · have HR : Hid (rd s p 10 0 0 = if s[p + 0].toNat = 0 ∧ 0 < 0 then (3, 0, 0) else (0, 0 + s[p + 0].toNat % 128 * 2 ^ (7 * 0), 0 + 1)) := rd_step (rdI_zero s p) hp0 (by omega) (show s[p + 0].toNat < 128 by have : s[p + 0].toNat = s[p].toNat := rfl; omega)
        go_wp2
        go_step3
        refine .inr (.inr ⟨rfl, 0, _, s[p + 0].toNat, _, _, _, _, _, _, _, _, _, _, _, _, _, _, _, _, _, _, _, _, _, _, _, _, _, _, _, _, _, _, _, _, _, _, _, _, _, _, _, _, _, _, _, _, _, _, rfl, rfl, HR, by omega, by omega, ?_, HT.out, ?_, ?_, ?_, ?_⟩)
        · have : s[p + 0].toNat = s[p].toNat := rfl
          omega
        · omega
        · exact HO.out
        · rfl
        · rfl
      · have HI : Hid (RdI s p (0 + 1) (0 + s[p + 0].toNat % 128 * 2 ^ (7 * 0))) := rdI_more (rdI_zero s p) hp0 (by omega) (show 128 ≤ s[p + 0].toNat by have : s[p + 0].toNat = s[p].toNat := rfl; omega)
        go_wp2
        go_step3
        refine .inr (.inl ⟨rfl, 0 + 1, _, _, _, _, _, _, _, _, _, _, _, _, _, _, _, _, _, _, _, _, _, _, _, _, _, _, _, _, _, _, _, _, _, _, _, _, _, _, _, _, _, _, _, _, _, _, _, rfl, rfl, HI, by omega, by omega, ?_, ?_, ?_⟩)
        · omega
        · exact HO.out
        · rfl
    · go_wp2
      go_step3
      refine .inl ⟨rfl, 4, _, _, _, _, _, _, _, _, _, _, _, _, _, _, _, _, _, _, _, _, _, _, _, _, _, _, _, _, _, _, _, _, _, _, _, _, _, _, _, _, _, _, _, _, _, _, rfl, rfl, ?_⟩
      exact hid_intro ⟨rd_short (by omega), by omega⟩
  · rintro l a' w' (⟨rfl, c, x1, x7, x8, x9, u11, u12, u13, u14, u15, u16, u17, u18, u19, u20, u21, u22, u23, u24, u25, u26, u27, u28, u29, u30, u31, u32, u33, u34, u35, u36, u37, u38, u39, u40, u41, u42, u43, u44, u45, u46, u47, u48, u49, u50, u51, u52, rfl, rfl, HR⟩ | ⟨rfl, k, u, x1, xu, x9, x8, u11, u12, u13, u14, u15, u16, u17, u18, u19, u20, u21, u22, u23, u24, u25, u26, u27, u28, u29, u30, u31, u32, u33, u34, u35, u36, u37, u38, u39, u40, u41, u42, u43, u44, u45, u46, u47, u48, u49, u50, u51, u52, rfl, rfl, HR, hk, hpk, rfl, rfl, rfl⟩ | ⟨rfl, k, u, c, x1, xu, xc, x9, u11, u12, u13, u14, u15, u16, u17, u18, u19, u20, u21, u22, u23, u24, u25, u26, u27, u28, u29, u30, u31, u32, u33, u34, u35, u36, u37, u38, u39, u40, u41, u42, u43, u44, u45, u46, u47, u48, u49, u50, u51, u52, rfl, rfl, HR, hk, hpk, hc, hu, rfl, rfl, rfl, rfl⟩)
    · refine ⟨_, rfl, ?_⟩
      go_wp2
      go_quiet (fail)
      go_wp2
      rw [jumps_ret]
      go_ret3
      refine ⟨fun h => absurd h (by rw [HR.out.1]; exact HR.out.2), fun _ => ret_fault (by rw [HR.out.1]), ?_⟩
      exact below_drewN ((Below.refl _ _).alloc (Nat.le_refl _) _) _
    · refine ⟨_, rfl, ?_⟩
      by_cases hp : (p : Int) + k < s.size
      · have hpN : p + k < s.size := by omega
        have hb2 : (s[p + k].toNat : Int) ≤ 255 := by have := UInt8.toNat_lt s[p + k]; omega
        by_cases h9 : k = 9
        · have HK : Hid (k = 9) := h9
          have h63 : (7 * (k : Int) == 63) = true := by simp; omega
          clear h9
          by_cases hc1 : 1 < (s[p + k].toNat : Int)
          · have HS : Hid (rd s p 10 0 0 = (3, 0, 0)) := (show _ = _ by rw [HR.out.2.2]; exact rd_nine hpN HK.out (by omega))
            clear HR
            go_wp2
            go_step3
            refine ⟨.inl ⟨rfl, 3, _, _, _, _, _, _, _, _, _, _, _, _, _, _, _, _, _, _, _, _, _, _, _, _, _, _, _, _, _, _, _, _, _, _, _, _, _, _, _, _, _, _, _, _, _, _, rfl, rfl, hid_intro ⟨HS.out, by omega⟩⟩, ?_⟩
            simp [lab, intOf]; omega
          · have HO : Hid (bits .or .u64 (u : Int) (IntKind.u64.wrap (IntKind.u64.wrap (bits .and .u8 (s[p + k].toNat : Int) 127) * 2 ^ (7 * k))) = ((u + s[p + k].toNat % 128 * 2 ^ (7 * k) : Nat) : Int)) := or_plus HR.out hpN (by omega)
            have HT : Hid (u + s[p + k].toNat % 128 * 2 ^ (7 * k) < 18446744073709551616) := top64 HR.out hpN (by omega)
            have HR2 : Hid (rd s p 10 0 0 = if s[p + k].toNat = 0 ∧ 0 < k then (3, 0, 0) else (0, u + s[p + k].toNat % 128 * 2 ^ (7 * k), k + 1)) := rd_step HR.out hpN (by omega) (by omega)
            clear HR
            have hc : (s[p + k].toNat : Int) < 128 := by omega
            go_wp2
            go_step3
            refine ⟨.inr (.inr ⟨rfl, k, _, s[p + k].toNat, _, _, _, _, _, _, _, _, _, _, _, _, _, _, _, _, _, _, _, _, _, _, _, _, _, _, _, _, _, _, _, _, _, _, _, _, _, _, _, _, _, _, _, _, _, _, rfl, rfl, HR2, hk, hpN, by omega, HT.out, ?_, HO.out, rfl, rfl⟩), ?_⟩
            · omega
            · simp [lab, intOf]; omega
        · have HO : Hid (bits .or .u64 (u : Int) (IntKind.u64.wrap (IntKind.u64.wrap (bits .and .u8 (s[p + k].toNat : Int) 127) * 2 ^ (7 * k))) = ((u + s[p + k].toNat % 128 * 2 ^ (7 * k) : Nat) : Int)) := or_plus HR.out hpN (by omega)
          have HT : Hid (u + s[p + k].toNat % 128 * 2 ^ (7 * k) < 18446744073709551616) := top64 HR.out hpN (by omega)
          have h63 : (7 * (k : Int) == 63) = false := by simp; omega
          by_cases hc : (s[p + k].toNat : Int) < 128
          · have HR2 : Hid (rd s p 10 0 0 = if s[p + k].toNat = 0 ∧ 0 < k then (3, 0, 0) else (0, u + s[p + k].toNat % 128 * 2 ^ (7 * k), k + 1)) := rd_step HR.out hpN (by omega) (by omega)
            clear HR
            go_wp2
            go_step3
            refine ⟨.inr (.inr ⟨rfl, k, _, s[p + k].toNat, _, _, _, _, _, _, _, _, _, _, _, _, _, _, _, _, _, _, _, _, _, _, _, _, _, _, _, _, _, _, _, _, _, _, _, _, _, _, _, _, _, _, _, _, _, _, rfl, rfl, HR2, hk, hpN, by omega, HT.out, ?_, HO.out, rfl, rfl⟩), ?_⟩
            · omega
            · simp [lab, intOf]; omega
          · have HI : Hid (RdI s p (k + 1) (u + s[p + k].toNat % 128 * 2 ^ (7 * k))) := rdI_more HR.out hpN h9 (by omega)
            clear HR
            go_wp2
            go_step3
            refine ⟨.inr (.inl ⟨rfl, k + 1, _, _, _, _, _, _, _, _, _, _, _, _, _, _, _, _, _, _, _, _, _, _, _, _, _, _, _, _, _, _, _, _, _, _, _, _, _, _, _, _, _, _, _, _, _, _, _, rfl, rfl, HI, by omega, by omega, ?_, HO.out, ?_⟩), ?_⟩
            · omega
            · omega
            · simp [lab, intOf]; omega
      · have HS : Hid (rd s p 10 0 0 = (4, 0, 0)) := (show _ = _ by rw [HR.out.2.2]; exact rd_short (by omega))
        clear HR
        go_wp2
        go_step3
        refine ⟨.inl ⟨rfl, 4, _, _, _, _, _, _, _, _, _, _, _, _, _, _, _, _, _, _, _, _, _, _, _, _, _, _, _, _, _, _, _, _, _, _, _, _, _, _, _, _, _, _, _, _, _, _, rfl, rfl, hid_intro ⟨HS.out, by omega⟩⟩, ?_⟩
        simp [lab, intOf]; omega
    · refine ⟨_, rfl, ?_⟩
      have hu2 : (u : Int) ≤ 18446744073709551615 := by omega
      have h7 : 7 * (k : Int) ≤ 63 := by omega
      have h8 : (0 : Int) ≤ 7 * (k : Int) := by omega
      by_cases hc0 : c = 0
      · have q0 : ((c : Int) == 0) = true := by simp; omega
        by_cases hk0 : 0 < k
        · have q1 : (0 : Int) < 7 * (k : Int) := by omega
          have HS : Hid (rd s p 10 0 0 = (3, 0, 0)) := (show _ = _ by rw [HR.out, if_pos ⟨hc0, hk0⟩])
          clear HR hc0
          go_wp2
          go_step3
          refine ⟨.inl ⟨rfl, 3, _, _, _, _, _, _, _, _, _, _, _, _, _, _, _, _, _, _, _, _, _, _, _, _, _, _, _, _, _, _, _, _, _, _, _, _, _, _, _, _, _, _, _, _, _, _, rfl, rfl, hid_intro ⟨HS.out, by omega⟩⟩, ?_⟩
          simp [lab]
        · have q1 : ¬ (0 : Int) < 7 * (k : Int) := by omega
          have HS : Hid (rd s p 10 0 0 = (0, u, k + 1)) := (show _ = _ by rw [HR.out, if_neg (by omega)])
          clear HR hc0
          go_wp2_with (go_at_call 77; refine (unfold_any u _ (by omega)).mono ?_; rintro e w' ⟨rfl, rfl⟩)
          rw [jumps_ret]
          go_ret3
          exact ⟨fun _ => ret_got (by rw [HS.out]) (by rw [HS.out]; show _ = (p : Int) + ((k + 1 : Nat) : Int); omega), fun h => absurd (by rw [HS.out]) h, (Below.refl _ _).alloc (Nat.le_refl _) _⟩
      · have q0 : ((c : Int) == 0) = false := by simp; omega
        have HS : Hid (rd s p 10 0 0 = (0, u, k + 1)) := (show _ = _ by rw [HR.out, if_neg (by omega)])
        clear HR hc0
        go_wp2_with (go_at_call 77; refine (unfold_any u _ (by omega)).mono ?_; rintro e w' ⟨rfl, rfl⟩)
        rw [jumps_ret]
        go_ret3
        exact ⟨fun _ => ret_got (by rw [HS.out]) (by rw [HS.out]; show _ = (p : Int) + ((k + 1 : Nat) : Int); omega), fun h => absurd (by rw [HS.out]) h, (Below.refl _ _).alloc (Nat.le_refl _) _⟩
set_option maxRecDepth 100000 in
theorem read_neg (s : ByteArray) (x : Int) (w : World) (hx : x < 0) (hm : -9223372036854775808 ≤ x) :
    Calls Tryd.prog 74 #[.string s, .int .i64 x] w fun e w' => e = .returned (.tuple #[.int .i64 0, .int .i64 0, .iface 110 (.agg #[.int .i64 1])]) ∧ Below w.heap.size w w' := by
  go_enter Tryd.func74, Tryd.ntmps74
  go_wp2
  refine wp_scope_multi (fun l a' w' => l = 0 ∧ ∃ (x1 x7 x8 x9 u11 u12 u13 u14 u15 u16 u17 u18 u19 u20 u21 u22 u23 u24 u25 u26 u27 u28 u29 u30 u31 u32 u33 u34 u35 u36 u37 u38 u39 u40 u41 u42 u43 u44 u45 u46 u47 u48 u49 u50 u51 u52 : Value), a' = { tmps := #[Value.string s, x1, undef, undef, Value.int .i64 0, Value.int .i64 0, Value.nilIface, x7, x8, x9, Value.pointer (some ⟨w.heap.size, 0, none⟩), u11, u12, u13, u14, u15, u16, u17, u18, u19, u20, u21, u22, u23, u24, u25, u26, u27, u28, u29, u30, u31, u32, u33, u34, u35, u36, u37, u38, u39, u40, u41, u42, u43, u44, u45, u46, u47, u48, u49, u50, u51, u52], defers := [] } ∧ w' = w.alloc (.cells #[.int .i64 1] 110)) (fun _ _ _ => 0) ?_ ?_
  · go_wp2
    go_step3
    exact ⟨rfl, _, _, _, _, _, _, _, _, _, _, _, _, _, _, _, _, _, _, _, _, _, _, _, _, _, _, _, _, _, _, _, _, _, _, _, _, _, _, _, _, _, _, _, _, _, _, rfl, rfl⟩
  · rintro l a' w' ⟨rfl, x1, x7, x8, x9, u11, u12, u13, u14, u15, u16, u17, u18, u19, u20, u21, u22, u23, u24, u25, u26, u27, u28, u29, u30, u31, u32, u33, u34, u35, u36, u37, u38, u39, u40, u41, u42, u43, u44, u45, u46, u47, u48, u49, u50, u51, u52, rfl, rfl⟩
    refine ⟨_, rfl, ?_⟩
    go_wp2
    go_quiet (fail)
    go_wp2
    rw [jumps_ret]
    go_ret3
    exact ⟨rfl, below_drewN ((Below.refl _ _).alloc (Nat.le_refl _) _) _⟩
end GetR
end Go.Proofs.YtaedolophhcjjaaDoor
