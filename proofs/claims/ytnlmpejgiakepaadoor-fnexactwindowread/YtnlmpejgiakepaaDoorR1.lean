/-
  Small facts that the other texts use: what a call hands back, read as one equation. No condition.
  A scope in which the run jumps to several labels: what holds at each label's jumps ('J'), and a measure that every pass from a label lowers. No condition. (The library's law is for one label.)
  What is read of a text at a place as a number: the plain function ('rd': its code, the folded number, how many bytes), and its steps. No condition.
  The program's reading of a number at a place ('readNum', by goto): what it hands back is 'rd'. The condition: the text has at most 8000 bytes.
  The model's reading of a number at a place: what it hands back is 'rd'. The condition: the text has at most 8000 bytes.
  PutNum: what the model and the program hand back is one text, the digits of the folded number. No condition but that the number is of int64.
  What is put is got: the digits of a number, read where they stand, are the number; of digits that end too early nothing is got. No condition.
  What is got was put: a number that is read is spelled by just its bytes, and so is a text. Arithmetic and bytes alone. No condition.
  What a number's and a text's reading come to, as functions of the bytes: what is read is spelled by just its bytes, and what is spelled is read. Arithmetic and bytes alone. No condition.
  A text's bytes. No condition.
  What texts come to when they are read: what is read is spelled by just its bytes, and what is spelled is read. Bytes alone. No condition.
  joinTexts: called with a list of texts (at least one) it hands back the texts one behind the other, in new memory; nothing that was there is written. The condition: they have together at most 2^40 bytes, and the list at most 1000 texts.
  A number and a text read at a place, either side: what is handed back is what the bytes spell there. The condition: the text has at most 8000 bytes.
  Small facts on worlds in which one block alone was written. No condition.
  The program's reader: a number and a text read at its place, behind a fault nothing. The condition: the text has at most 8000 bytes.
  The model's reader: a number and a text read at its place, behind a fault nothing. The condition: the text has at most 8000 bytes.
  A text of seen bytes alone (33 to 126): what the program says rune by rune and what the model says byte by byte. No condition but the length.
  What a right Id and a minute are: both sides say the same. No condition but the lengths.
  The readers of both sides: texts, numbers and counts. The condition: the text has at most 8000 bytes.
  A row of cells that may be written. No condition.
  Rows of things of so many cells each, read, written cell by cell, made by append. No condition.
  Arithmetic alone: leap years, the days of months and years, and which year and month a day lies in. No condition.
  Arithmetic alone: the first day of a month that is counted from January 1970, and which month a right date lies in. No condition.
  What the program calls a name is what the model calls one, of every text of at most 1048576 bytes. No condition.
  What a right event is: both sides say the same. No condition but the lengths.
  The order of texts. No condition.
  Windows: their tags and hours as rows of cells, and what is right of them, in numbers. No condition.
  A block of cells that stays. No condition.
  The program's rising lists: whether tags, hours rise. The condition: at most 1048576 of them.
  Windows that the law is given: how many letters, the law's own copies, and windows held against each other. The condition: at most 1048576 of each.
  Windows that the law is given: the law's own copies, and windows held against each other. The condition: at most 1048576 of each.
-/
import Derived.Test.YtnlmpejgiakepaaDoorRows
import Derived.WalkKit
import Derived.ProofKit
import Derived.OpenShut
import Derived.ShutString
import Derived.Below
import Derived.WalkSpells
import Derived.WalkLawsBesides
import Derived.WalkMore
import Derived.ScopeJumps
import Derived.Deep.QuietTactic
import Derived.BigQuiet
import Derived.Laws.BytesArg
import Derived.Laws.CopyOwn
import Derived.Lib.BufferRead
import Derived.BigRegion
import Derived.Deep.RegionWith
import Derived.Laws.RangeAny
import Derived.Deep.CutRange
import Derived.Deep.DeepCutAuto
import Derived.OwnWalk
import Derived.Deep.RegionHeld3
namespace Go.Proofs.YtnlmpejgiakepaaDoor
open Go.RowKit
theorem ret_bool {a b : Bool} (h : a = b) : Ending.returned (.bool a) = .returned (.bool b) := by rw [h]
theorem ret_int {k : IntKind} {a b : Int} (h : a = b) : Ending.returned (.int k a) = .returned (.int k b) := by rw [h]
theorem ret_str {a b : ByteArray} (h : a = b) : Ending.returned (.string a) = .returned (.string b) := by rw [h]
theorem bcell {W w1 : World} (hb : Below W.heap.size W w1) : (∀ b o, b < W.heap.size → w1.cell? ⟨b, o, none⟩ = W.cell? ⟨b, o, none⟩) ∧ (∀ b o, b < W.heap.size → w1.frozen? ⟨b, o, none⟩ = W.frozen? ⟨b, o, none⟩) :=
  ⟨fun b o h => hb.cell (p := ⟨b, o, none⟩) h, fun b o h => hb.frozen (p := ⟨b, o, none⟩) h⟩
theorem bel_alloc {w w1 : World} {o : Obj} (h : Below (w.alloc o).heap.size (w.alloc o) w1) : Below w.heap.size w w1 :=
  ((Below.refl _ _).alloc (Nat.le_refl _) _).trans (h.mono (by simp))
theorem bel_alloc_drew {w w1 : World} {o : Obj} (h : Below (w.alloc o).drew.heap.size (w.alloc o).drew w1) : Below w.heap.size w w1 :=
  (((Below.refl _ _).alloc (Nat.le_refl _) _).drew).trans (h.mono (by simp))
end Go.Proofs.YtnlmpejgiakepaaDoor
namespace Go.Proofs.YtnlmpejgiakepaaDoor
open Go
/-- As Q; by a goto to a label l: J l. -/
def jumps (J : Nat → Act → World → Prop) (Q : Exit → Act → World → Prop) : Exit → Act → World → Prop
  | .goto l, a, w => J l a w
  | e, a, w => Q e a w
theorem jumps_ret {J : Nat → Act → World → Prop} {Q : Exit → Act → World → Prop} {a : Act} {w : World} : jumps J Q .ret a w = Q .ret a w := rfl
theorem jumps_goto {J : Nat → Act → World → Prop} {Q : Exit → Act → World → Prop} {a : Act} {w : World} {l : Nat} : jumps J Q (.goto l) a w = J l a w := rfl
theorem wp_scope_multi {P : Program} {a : Act} {w : World} {Q : Exit → Act → World → Prop} {c : Code} (J : Nat → Act → World → Prop) (μ : Nat → Act → World → Nat)
    (first : c.wp P (jumps J Q) a w)
    (pass : ∀ l a w, J l a w → ∃ rest, findLabel c l = some rest ∧ rest.wp P (jumps (fun l' a' w' => J l' a' w' ∧ μ l' a' w' < μ l a w) Q) a w) : (Code.scope c).wp P Q a w := by
  intro b k cs
  have key : ∀ n l a w, μ l a w = n → J l a w → ∃ rest, findLabel c l = some rest ∧ ∃ e a' w', Q e a' w' ∧ Arrives P (lone (b.at a (.code rest :: .inScope c :: k)) cs w) b k cs e a' w' := by
    intro n
    induction n using Nat.strongRecOn with
    | _ n ih =>
      intro l a w hn hJ
      obtain ⟨rest, hf, hp⟩ := pass l a w hJ
      refine ⟨rest, hf, ?_⟩
      obtain ⟨e, a₁, w₁, hq, harr⟩ := hp b (.inScope c :: k) cs
      cases e with
      | normal => exact ⟨.normal, a₁, w₁, hq, Steps.trans harr (.one step_inScope)⟩
      | exit id => exact ⟨.exit id, a₁, w₁, hq, fun k' hk => harr k' (by simp [exitTo, hk])⟩
      | goto l' =>
        obtain ⟨hJ', hlt⟩ := hq
        obtain ⟨rest', hf', e₂, a₂, w₂, hq₂, harr₂⟩ := ih _ (by omega) l' a₁ w₁ rfl hJ'
        have hg : gotoIn l' (.inScope c :: k) = some (.code rest' :: .inScope c :: k) := by simp [gotoIn, hf']
        exact ⟨e₂, a₂, w₂, hq₂, .of_steps (harr _ hg) harr₂⟩
      | ret => exact ⟨_, a₁, w₁, hq, harr⟩
      | panic ch => exact ⟨_, a₁, w₁, hq, harr⟩
      | outgrown => exact ⟨_, a₁, w₁, hq, harr⟩
  obtain ⟨e, a₁, w₁, hq, harr⟩ := first b (.inScope c :: k) cs
  cases e with
  | normal => exact ⟨.normal, a₁, w₁, hq, .head step_scope (Steps.trans harr (.one step_inScope))⟩
  | exit id => exact ⟨.exit id, a₁, w₁, hq, fun k' hk => .head step_scope (harr k' (by simp [exitTo, hk]))⟩
  | goto l' =>
    obtain ⟨rest', hf', e₂, a₂, w₂, hq₂, harr₂⟩ := key _ l' a₁ w₁ rfl hq
    have hg : gotoIn l' (.inScope c :: k) = some (.code rest' :: .inScope c :: k) := by simp [gotoIn, hf']
    exact ⟨e₂, a₂, w₂, hq₂, .of_steps (.head step_scope (harr _ hg)) harr₂⟩
  | ret => exact ⟨_, a₁, w₁, hq, .of_steps (.one step_scope) harr⟩
  | panic ch => exact ⟨_, a₁, w₁, hq, .of_steps (.one step_scope) harr⟩
  | outgrown => exact ⟨_, a₁, w₁, hq, .of_steps (.one step_scope) harr⟩
end Go.Proofs.YtnlmpejgiakepaaDoor
namespace Go.Proofs.YtnlmpejgiakepaaDoor
open Go.RowKit
namespace GetR
theorem hid_intro {p : Prop} (h : p) : Hid p := h
def rd (s : ByteArray) (p : Nat) : Nat → Nat → Nat → Nat × Nat × Nat
  | 0, _, _ => (3, 0, 0)
  | f + 1, i, u =>
    if h : p + i < s.size then
      if i = 9 ∧ 1 < s[p + i].toNat then (3, 0, 0)
      else if s[p + i].toNat < 128 then (if s[p + i].toNat = 0 ∧ 0 < i then (3, 0, 0) else (0, u + s[p + i].toNat % 128 * 2 ^ (7 * i), i + 1))
      else rd s p f (i + 1) (u + s[p + i].toNat % 128 * 2 ^ (7 * i))
    else (4, 0, 0)
theorem rd_short {s : ByteArray} {p f i u : Nat} (h : s.size ≤ p + i) : rd s p (f + 1) i u = (4, 0, 0) := by
  rw [rd, dif_neg (by omega)]
theorem rd_nine {s : ByteArray} {p f i u : Nat} (h : p + i < s.size) (h9 : i = 9) (hc : 1 < s[p + i].toNat) : rd s p (f + 1) i u = (3, 0, 0) := by
  rw [rd, dif_pos h, if_pos ⟨h9, hc⟩]
theorem rd_zero {s : ByteArray} {p f i u : Nat} (h : p + i < s.size) (hc : s[p + i].toNat = 0) (hi : 0 < i) : rd s p (f + 1) i u = (3, 0, 0) := by
  rw [rd, dif_pos h, if_neg (by omega), if_pos (by omega), if_pos ⟨hc, hi⟩]
theorem rd_last {s : ByteArray} {p f i u : Nat} (h : p + i < s.size) (h9 : ¬ (i = 9 ∧ 1 < s[p + i].toNat)) (hc : s[p + i].toNat < 128) (hz : ¬ (s[p + i].toNat = 0 ∧ 0 < i)) :
    rd s p (f + 1) i u = (0, u + s[p + i].toNat % 128 * 2 ^ (7 * i), i + 1) := by
  rw [rd, dif_pos h, if_neg h9, if_pos hc, if_neg hz]
theorem rd_more {s : ByteArray} {p f i u : Nat} (h : p + i < s.size) (h9 : i ≠ 9) (hc : 128 ≤ s[p + i].toNat) :
    rd s p (f + 1) i u = rd s p f (i + 1) (u + s[p + i].toNat % 128 * 2 ^ (7 * i)) := by
  rw [rd, dif_pos h, if_neg (by omega), if_neg (by omega)]
/-- What is read in all, and what is still to be read behind k bytes, are one. -/
def RdI (s : ByteArray) (p k u : Nat) : Prop := k ≤ 9 ∧ u < 2 ^ (7 * k) ∧ rd s p 10 0 0 = rd s p (9 - k + 1) k u
theorem rdI_zero (s : ByteArray) (p : Nat) : RdI s p 0 0 := ⟨by omega, by simp, rfl⟩
theorem grow7 {u k c : Nat} (h : u < 2 ^ (7 * k)) (hc : c ≤ 127) : u + c * 2 ^ (7 * k) < 2 ^ (7 * (k + 1)) := by
  have e : 2 ^ (7 * (k + 1)) = 128 * 2 ^ (7 * k) := by rw [show 7 * (k + 1) = 7 * k + 7 from by omega, Nat.pow_add, Nat.mul_comm]
  have : c * 2 ^ (7 * k) ≤ 127 * 2 ^ (7 * k) := Nat.mul_le_mul_right _ hc
  omega
theorem pow7 {k : Nat} (h : k ≤ 9) : 2 ^ (7 * k) ≤ 9223372036854775808 := by
  have := Nat.pow_le_pow_right (show 0 < 2 by omega) (show 7 * k ≤ 63 by omega)
  exact this
theorem rdI_more {s : ByteArray} {p k u : Nat} (h : RdI s p k u) (hp : p + k < s.size) (h9 : k ≠ 9) (hc : 128 ≤ s[p + k].toNat) : RdI s p (k + 1) (u + s[p + k].toNat % 128 * 2 ^ (7 * k)) := by
  refine ⟨by have := h.1; omega, grow7 h.2.1 (by omega), ?_⟩
  rw [h.2.2, rd_more hp h9 hc]
  congr 1
  have := h.1
  omega
theorem top64 {s : ByteArray} {p k u : Nat} (h : RdI s p k u) (hp : p + k < s.size) (h9 : ¬ (k = 9 ∧ 1 < s[p + k].toNat)) : u + s[p + k].toNat % 128 * 2 ^ (7 * k) < 18446744073709551616 := by
  by_cases e : k = 9
  · subst e
    have h1 : u < 9223372036854775808 := h.2.1
    have h2 : s[p + 9].toNat % 128 * 2 ^ (7 * 9) ≤ 1 * 9223372036854775808 := Nat.mul_le_mul (by omega) (Nat.le_refl _)
    omega
  · have := grow7 h.2.1 (show s[p + k].toNat % 128 ≤ 127 by omega)
    have := pow7 (show k + 1 ≤ 9 by have := h.1; omega)
    omega
/-- A folded number, unfolded. -/
def unz (u : Nat) : Int := if u % 2 = 1 then -((u / 2 : Nat) : Int) - 1 else ((u / 2 : Nat) : Int)
theorem unz_odd {u : Nat} (h : u % 2 = 1) : unz u = -((u / 2 : Nat) : Int) - 1 := if_pos h
theorem unz_even {u : Nat} (h : u % 2 = 0) : unz u = ((u / 2 : Nat) : Int) := if_neg (by omega)
theorem u64wrap (n : Int) : IntKind.u64.wrap n = n % 18446744073709551616 := by simp [IntKind.wrap, IntKind.bits, IntKind.signed]
theorem xor_ones (x : Int) (h0 : 0 ≤ x) (h1 : x ≤ 18446744073709551615) : bits .xor .u64 IntKind.u64.max x = 18446744073709551615 - x := by
  have hm : BitVec.ofInt 64 IntKind.u64.max = BitVec.allOnes 64 := by decide
  have hx : (BitVec.ofInt 64 x).toNat = x.toNat := by
    rw [BitVec.toNat_ofInt]; congr 1; exact Int.emod_eq_of_lt h0 (by omega)
  show IntKind.u64.wrap ((BitVec.ofInt 64 IntKind.u64.max ^^^ BitVec.ofInt 64 x).toNat : Int) = _
  rw [hm, BitVec.allOnes_xor, BitVec.toNat_not, hx, u64wrap]
  omega
theorem and127 (c : Nat) (h : c < 256) : bits .and .u8 (c : Int) 127 = ((c % 128 : Nat) : Int) := by
  have := u8_and_nat c 127 (by omega) (by omega)
  rw [show ((127 : Nat) : Int) = 127 from rfl] at this
  rw [this]
  congr 1
  exact Nat.and_two_pow_sub_one_eq_mod c 7
/-- What the program's round adds: its 'or' is a plus. -/
theorem or_plus {s : ByteArray} {p k u : Nat} (h : RdI s p k u) (hp : p + k < s.size) (h9 : ¬ (k = 9 ∧ 1 < s[p + k].toNat)) :
    bits .or .u64 (u : Int) (IntKind.u64.wrap (IntKind.u64.wrap (bits .and .u8 (s[p + k].toNat : Int) 127) * 2 ^ (7 * k))) = ((u + s[p + k].toNat % 128 * 2 ^ (7 * k) : Nat) : Int) := by
  have ht := top64 h hp h9
  have hc : s[p + k].toNat < 256 := UInt8.toNat_lt s[p + k]
  obtain ⟨c, hcc⟩ : ∃ c, c = s[p + k].toNat := ⟨_, rfl⟩
  rw [← hcc] at ht hc ⊢
  rw [and127 c hc]
  obtain ⟨q, hq⟩ : ∃ q, q = 2 ^ (7 * k) := ⟨_, rfl⟩
  have e2 : ((2 : Int) ^ (7 * k)) = ((2 ^ (7 * k) : Nat) : Int) := by simp
  have hu := h.2.1
  rw [e2]
  rw [← hq] at ht ⊢
  have e3 : IntKind.u64.wrap ((c % 128 : Nat) : Int) = ((c % 128 : Nat) : Int) := by rw [u64wrap]; omega
  have e4 : ((c % 128 : Nat) : Int) * ((q : Nat) : Int) = ((c % 128 * q : Nat) : Int) := by simp
  have e5 : IntKind.u64.wrap ((c % 128 * q : Nat) : Int) = ((c % 128 * q : Nat) : Int) := by rw [u64wrap]; omega
  rw [e3, e4, e5]
  rw [u64_or_nat u (c % 128 * q) (by omega) (by omega)]
  congr 1
  rw [Nat.or_comm, nat_join (7 * k) (c % 128 * q) u (by rw [← hq]; exact Nat.mul_mod_left _ _) hu]
  omega
theorem or_plus9 {s : ByteArray} {p u : Nat} (h : RdI s p 9 u) (hp : p + 9 < s.size) (h9 : ¬ (1 < s[p + 9].toNat)) :
    bits .or .u64 (u : Int) (IntKind.u64.wrap (IntKind.u64.wrap (bits .and .u8 (s[p + 9].toNat : Int) 127) * 9223372036854775808)) = ((u + s[p + 9].toNat % 128 * 2 ^ (7 * 9) : Nat) : Int) :=
  or_plus h hp (by omega)
end GetR
end Go.Proofs.YtnlmpejgiakepaaDoor
namespace Go.Proofs.YtnlmpejgiakepaaDoor
open Go.ChangeShapes Go.WideShapes Go.ChangeAt Go.RowKit
open Go.ChangeMaps (open_string shut_string)
set_option linter.unusedVariables false
namespace GetR
theorem and1 (u : Nat) (h : u < 18446744073709551616) : bits .and .u64 (u : Int) 1 = ((u % 2 : Nat) : Int) := by
  have := u64_and_nat u 1 h (by omega)
  rw [show ((1 : Nat) : Int) = 1 from rfl] at this
  rw [this]
  congr 1
  exact Nat.and_two_pow_sub_one_eq_mod u 1
theorem neg_bits (u : Nat) (h : u < 18446744073709551616) : wrap64 (bits .xor .u64 IntKind.u64.max ((u : Int) / 2)) = -((u / 2 : Nat) : Int) - 1 := by
  rw [xor_ones _ (by omega) (by omega)]; simp only [wrap64]; omega
theorem unfold_any (u : Nat) (w : World) (h : u < 18446744073709551616) :
    Calls Tryd.prog 114 #[.int .u64 u] w fun e w' => e = .returned (.int .i64 (unz u)) ∧ w' = w := by
  have h1 := and1 u h
  by_cases ho : u % 2 = 1
  · have hq : (bits .and .u64 (u : Int) 1 == 1) = true := by rw [h1, ho]; rfl
    have HN : Hid (wrap64 (bits .xor .u64 IntKind.u64.max ((u : Int) / 2)) = unz u) := (show _ = _ by rw [unz_odd ho]; exact neg_bits u h)
    have hu : (u : Int) ≤ 18446744073709551615 := by omega
    clear h1 ho h
    go_enter Tryd.func114, Tryd.ntmps114
    go_wp2
    go_ret
    exact ⟨ret_int HN.out, rfl⟩
  · have hq : (bits .and .u64 (u : Int) 1 == 1) = false := by rw [h1, show u % 2 = 0 by omega]; rfl
    have HN : Hid ((u : Int) / 2 = unz u) := (show _ = _ by rw [unz_even (by omega)]; omega)
    have hu : (u : Int) ≤ 18446744073709551615 := by omega
    clear h1 ho h
    go_enter Tryd.func114, Tryd.ntmps114
    go_wp2
    go_ret
    exact ⟨ret_int HN.out, rfl⟩
/-- What holds at the jumps: 0 'wrong', 1 'more', 2 'last'. -/
def Jmp (s : ByteArray) (p : Nat) (w : World) (l : Nat) (a : Act) (w' : World) : Prop :=
  (l = 0 ∧ ∃ (c : Nat) (x1 x7 x8 x9 u11 u12 u13 u14 u15 u16 u17 u18 u19 u20 u21 u22 u23 u24 u25 u26 u27 u28 u29 u30 u31 u32 u33 u34 u35 u36 u37 u38 u39 u40 u41 u42 u43 u44 u45 u46 u47 u48 u49 u50 u51 u52 : Value), a = { tmps := #[Value.string s, x1, undef, undef, Value.int .i64 0, Value.int .i64 0, Value.nilIface, x7, x8, x9, Value.pointer (some ⟨w.heap.size, 0, none⟩), u11, u12, u13, u14, u15, u16, u17, u18, u19, u20, u21, u22, u23, u24, u25, u26, u27, u28, u29, u30, u31, u32, u33, u34, u35, u36, u37, u38, u39, u40, u41, u42, u43, u44, u45, u46, u47, u48, u49, u50, u51, u52], defers := [] } ∧ w' = w.alloc (.cells #[.int .i64 c] 127) ∧ Hid (rd s p 10 0 0 = (c, 0, 0) ∧ c ≠ 0)) ∨
  (l = 1 ∧ ∃ (k u : Nat) (x1 xu x9 : Int) (x8 u11 u12 u13 u14 u15 u16 u17 u18 u19 u20 u21 u22 u23 u24 u25 u26 u27 u28 u29 u30 u31 u32 u33 u34 u35 u36 u37 u38 u39 u40 u41 u42 u43 u44 u45 u46 u47 u48 u49 u50 u51 u52 : Value), a = { tmps := #[Value.string s, Value.int .i64 x1, undef, undef, Value.int .i64 0, Value.int .i64 0, Value.nilIface, Value.int .u64 xu, x8, Value.int .i64 x9, Value.pointer (some ⟨w.heap.size, 0, none⟩), u11, u12, u13, u14, u15, u16, u17, u18, u19, u20, u21, u22, u23, u24, u25, u26, u27, u28, u29, u30, u31, u32, u33, u34, u35, u36, u37, u38, u39, u40, u41, u42, u43, u44, u45, u46, u47, u48, u49, u50, u51, u52], defers := [] } ∧ w' = w.alloc (.cells #[.int .i64 3] 127) ∧ Hid (RdI s p k u) ∧ k ≤ 9 ∧ p + k ≤ s.size ∧ x1 = (p : Int) + k ∧ xu = u ∧ x9 = 7 * (k : Int)) ∨
  (l = 2 ∧ ∃ (k u c : Nat) (x1 xu xc x9 : Int) (u11 u12 u13 u14 u15 u16 u17 u18 u19 u20 u21 u22 u23 u24 u25 u26 u27 u28 u29 u30 u31 u32 u33 u34 u35 u36 u37 u38 u39 u40 u41 u42 u43 u44 u45 u46 u47 u48 u49 u50 u51 u52 : Value), a = { tmps := #[Value.string s, Value.int .i64 x1, undef, undef, Value.int .i64 0, Value.int .i64 0, Value.nilIface, Value.int .u64 xu, Value.int .u8 xc, Value.int .i64 x9, Value.pointer (some ⟨w.heap.size, 0, none⟩), u11, u12, u13, u14, u15, u16, u17, u18, u19, u20, u21, u22, u23, u24, u25, u26, u27, u28, u29, u30, u31, u32, u33, u34, u35, u36, u37, u38, u39, u40, u41, u42, u43, u44, u45, u46, u47, u48, u49, u50, u51, u52], defers := [] } ∧ w' = w.alloc (.cells #[.int .i64 3] 127) ∧ Hid (rd s p 10 0 0 = if c = 0 ∧ 0 < k then (3, 0, 0) else (0, u, k + 1)) ∧ k ≤ 9 ∧ p + k < s.size ∧ c < 128 ∧ u < 18446744073709551616 ∧ x1 = (p : Int) + k + 1 ∧ xu = u ∧ xc = c ∧ x9 = 7 * (k : Int))
theorem rd_step {s : ByteArray} {p k u : Nat} (h : RdI s p k u) (hp : p + k < s.size) (h9 : ¬ (k = 9 ∧ 1 < s[p + k].toNat)) (hc : s[p + k].toNat < 128) :
    rd s p 10 0 0 = if s[p + k].toNat = 0 ∧ 0 < k then (3, 0, 0) else (0, u + s[p + k].toNat % 128 * 2 ^ (7 * k), k + 1) := by
  rw [h.2.2]
  split
  · next hz => exact rd_zero hp hz.1 hz.2
  · next hz => exact rd_last hp h9 hc hz
theorem or_plus0 {s : ByteArray} {p : Nat} (hp : p < s.size) :
    bits .or .u64 0 (IntKind.u64.wrap (IntKind.u64.wrap (bits .and .u8 (s[p].toNat : Int) 127))) = ((0 + s[p + 0].toNat % 128 * 2 ^ (7 * 0) : Nat) : Int) := by
  have := or_plus (rdI_zero s p) (show p + 0 < s.size from hp) (by omega)
  simpa using this
theorem ret_fault {a b : Int} {T : TypeId} (h : a = b) : Ending.returned (.tuple #[.int .i64 0, .int .i64 0, .iface T (.agg #[.int .i64 a])]) = .returned (.tuple #[.int .i64 0, .int .i64 0, .iface T (.agg #[.int .i64 b])]) := by rw [h]
theorem ret_got {a b c d : Int} (h1 : a = b) (h2 : c = d) : Ending.returned (.tuple #[.int .i64 a, .int .i64 c, .nilIface]) = .returned (.tuple #[.int .i64 b, .int .i64 d, .nilIface]) := by rw [h1, h2]
def lab (l : Nat) (a : Act) (_ : World) : Nat := match l with | 0 => 0 | 1 => 100 - (intOf (a.tmps.getD 9 undef)).toNat | _ => 1
/-- What the call hands back, of what is read. -/
def Told (w : World) (p : Nat) (r : Nat × Nat × Nat) (e : Ending) (w' : World) : Prop :=
  (r.1 = 0 → e = .returned (.tuple #[.int .i64 (unz r.2.1), .int .i64 ((p : Int) + r.2.2), .nilIface])) ∧
  (r.1 ≠ 0 → e = .returned (.tuple #[.int .i64 0, .int .i64 0, .iface 127 (.agg #[.int .i64 r.1])])) ∧ Below w.heap.size w w'
set_option maxRecDepth 100000 in
set_option maxHeartbeats 4000000 in
theorem read_any (s : ByteArray) (p : Nat) (w : World) (hs : s.size ≤ 8000) (hm : (p : Int) ≤ 9223372036854775807) :
    Calls Tryd.prog 95 #[.string s, .int .i64 p] w fun e w' => Told w p (rd s p 10 0 0) e w' := by
  go_enter Tryd.func95, Tryd.ntmps95
  go_wp2
  refine wp_scope_multi (Jmp s p w) lab ?_ ?_
  · go_wp2
    go_step3
    by_cases hp : (p : Int) < s.size
    · have hb : 0 ≤ (s[p].toNat : Int) := by omega
      have hb2 : (s[p].toNat : Int) ≤ 255 := by have := UInt8.toNat_lt s[p]; omega
      have hp0 : p + 0 < s.size := by omega
      have HO : Hid (bits .or .u64 0 (IntKind.u64.wrap (IntKind.u64.wrap (bits .and .u8 (s[p].toNat : Int) 127))) = ((0 + s[p + 0].toNat % 128 * 2 ^ (7 * 0) : Nat) : Int)) := or_plus0 (by omega)
      have HT : Hid (0 + s[p + 0].toNat % 128 * 2 ^ (7 * 0) < 18446744073709551616) := top64 (rdI_zero s p) hp0 (by omega)
      by_cases hc : (s[p].toNat : Int) < 128
      · have HR : Hid (rd s p 10 0 0 = if s[p + 0].toNat = 0 ∧ 0 < 0 then (3, 0, 0) else (0, 0 + s[p + 0].toNat % 128 * 2 ^ (7 * 0), 0 + 1)) := rd_step (rdI_zero s p) hp0 (by omega) (show s[p + 0].toNat < 128 by have : s[p + 0].toNat = s[p].toNat := rfl; omega)
        go_wp2
        go_step3
        refine .inr (.inr ⟨rfl, 0, _, s[p + 0].toNat, _, _, _, _, _, _, _, _, _, _, _, _, _, _, _, _, _, _, _, _, _, _, _, _, _, _, _, _, _, _, _, _, _, _, _, _, _, _, _, _, _, _, _, _, _, _, rfl, rfl, HR, by omega, by omega, ?_, HT.out, ?_, ?_, ?_, ?_⟩)
        · have : s[p + 0].toNat = s[p].toNat := rfl
          omega
        · omega
        · exact HO.out
        · rfl
        · rfl
      · have HI : Hid (RdI s p (0 + 1) (0 + s[p + 0].toNat % 128 * 2 ^ (7 * 0))) := rdI_more (rdI_zero s p) hp0 (by omega) (show 128 ≤ s[p + 0].toNat by have : s[p + 0].toNat = s[p].toNat := rfl; omega)
        go_wp2
        go_step3
        refine .inr (.inl ⟨rfl, 0 + 1, _, _, _, _, _, _, _, _, _, _, _, _, _, _, _, _, _, _, _, _, _, _, _, _, _, _, _, _, _, _, _, _, _, _, _, _, _, _, _, _, _, _, _, _, _, _, _, rfl, rfl, HI, by omega, by omega, ?_, ?_, ?_⟩)
        · omega
        · exact HO.out
        · rfl
    · go_wp2
      go_step3
      refine .inl ⟨rfl, 4, _, _, _, _, _, _, _, _, _, _, _, _, _, _, _, _, _, _, _, _, _, _, _, _, _, _, _, _, _, _, _, _, _, _, _, _, _, _, _, _, _, _, _, _, _, _, rfl, rfl, ?_⟩
      exact hid_intro ⟨rd_short (by omega), by omega⟩
  · rintro l a' w' (⟨rfl, c, x1, x7, x8, x9, u11, u12, u13, u14, u15, u16, u17, u18, u19, u20, u21, u22, u23, u24, u25, u26, u27, u28, u29, u30, u31, u32, u33, u34, u35, u36, u37, u38, u39, u40, u41, u42, u43, u44, u45, u46, u47, u48, u49, u50, u51, u52, rfl, rfl, HR⟩ | ⟨rfl, k, u, x1, xu, x9, x8, u11, u12, u13, u14, u15, u16, u17, u18, u19, u20, u21, u22, u23, u24, u25, u26, u27, u28, u29, u30, u31, u32, u33, u34, u35, u36, u37, u38, u39, u40, u41, u42, u43, u44, u45, u46, u47, u48, u49, u50, u51, u52, rfl, rfl, HR, hk, hpk, rfl, rfl, rfl⟩ | ⟨rfl, k, u, c, x1, xu, xc, x9, u11, u12, u13, u14, u15, u16, u17, u18, u19, u20, u21, u22, u23, u24, u25, u26, u27, u28, u29, u30, u31, u32, u33, u34, u35, u36, u37, u38, u39, u40, u41, u42, u43, u44, u45, u46, u47, u48, u49, u50, u51, u52, rfl, rfl, HR, hk, hpk, hc, hu, rfl, rfl, rfl, rfl⟩)
    · refine ⟨_, rfl, ?_⟩
      go_wp2
      go_quiet (fail)
      go_wp2
      rw [jumps_ret]
      go_ret3
      refine ⟨fun h => absurd h (by rw [HR.out.1]; exact HR.out.2), fun _ => ret_fault (by rw [HR.out.1]), ?_⟩
      exact below_drewN ((Below.refl _ _).alloc (Nat.le_refl _) _) _
    · refine ⟨_, rfl, ?_⟩
      by_cases hp : (p : Int) + k < s.size
      · have hpN : p + k < s.size := by omega
        have hb2 : (s[p + k].toNat : Int) ≤ 255 := by have := UInt8.toNat_lt s[p + k]; omega
        by_cases h9 : k = 9
        · have HK : Hid (k = 9) := h9
          have h63 : (7 * (k : Int) == 63) = true := by simp; omega
          clear h9
          by_cases hc1 : 1 < (s[p + k].toNat : Int)
          · have HS : Hid (rd s p 10 0 0 = (3, 0, 0)) := (show _ = _ by rw [HR.out.2.2]; exact rd_nine hpN HK.out (by omega))
            clear HR
            go_wp2
            go_step3
            refine ⟨.inl ⟨rfl, 3, _, _, _, _, _, _, _, _, _, _, _, _, _, _, _, _, _, _, _, _, _, _, _, _, _, _, _, _, _, _, _, _, _, _, _, _, _, _, _, _, _, _, _, _, _, _, rfl, rfl, hid_intro ⟨HS.out, by omega⟩⟩, ?_⟩
            simp [lab, intOf]; omega
          · have HO : Hid (bits .or .u64 (u : Int) (IntKind.u64.wrap (IntKind.u64.wrap (bits .and .u8 (s[p + k].toNat : Int) 127) * 2 ^ (7 * k))) = ((u + s[p + k].toNat % 128 * 2 ^ (7 * k) : Nat) : Int)) := or_plus HR.out hpN (by omega)
            have HT : Hid (u + s[p + k].toNat % 128 * 2 ^ (7 * k) < 18446744073709551616) := top64 HR.out hpN (by omega)
            have HR2 : Hid (rd s p 10 0 0 = if s[p + k].toNat = 0 ∧ 0 < k then (3, 0, 0) else (0, u + s[p + k].toNat % 128 * 2 ^ (7 * k), k + 1)) := rd_step HR.out hpN (by omega) (by omega)
            clear HR
            have hc : (s[p + k].toNat : Int) < 128 := by omega
            go_wp2
            go_step3
            refine ⟨.inr (.inr ⟨rfl, k, _, s[p + k].toNat, _, _, _, _, _, _, _, _, _, _, _, _, _, _, _, _, _, _, _, _, _, _, _, _, _, _, _, _, _, _, _, _, _, _, _, _, _, _, _, _, _, _, _, _, _, _, rfl, rfl, HR2, hk, hpN, by omega, HT.out, ?_, HO.out, rfl, rfl⟩), ?_⟩
            · omega
            · simp [lab, intOf]; omega
        · have HO : Hid (bits .or .u64 (u : Int) (IntKind.u64.wrap (IntKind.u64.wrap (bits .and .u8 (s[p + k].toNat : Int) 127) * 2 ^ (7 * k))) = ((u + s[p + k].toNat % 128 * 2 ^ (7 * k) : Nat) : Int)) := or_plus HR.out hpN (by omega)
          have HT : Hid (u + s[p + k].toNat % 128 * 2 ^ (7 * k) < 18446744073709551616) := top64 HR.out hpN (by omega)
          have h63 : (7 * (k : Int) == 63) = false := by simp; omega
          by_cases hc : (s[p + k].toNat : Int) < 128
          · have HR2 : Hid (rd s p 10 0 0 = if s[p + k].toNat = 0 ∧ 0 < k then (3, 0, 0) else (0, u + s[p + k].toNat % 128 * 2 ^ (7 * k), k + 1)) := rd_step HR.out hpN (by omega) (by omega)
            clear HR
            go_wp2
            go_step3
            refine ⟨.inr (.inr ⟨rfl, k, _, s[p + k].toNat, _, _, _, _, _, _, _, _, _, _, _, _, _, _, _, _, _, _, _, _, _, _, _, _, _, _, _, _, _, _, _, _, _, _, _, _, _, _, _, _, _, _, _, _, _, _, rfl, rfl, HR2, hk, hpN, by omega, HT.out, ?_, HO.out, rfl, rfl⟩), ?_⟩
            · omega
            · simp [lab, intOf]; omega
          · have HI : Hid (RdI s p (k + 1) (u + s[p + k].toNat % 128 * 2 ^ (7 * k))) := rdI_more HR.out hpN h9 (by omega)
            clear HR
            go_wp2
            go_step3
            refine ⟨.inr (.inl ⟨rfl, k + 1, _, _, _, _, _, _, _, _, _, _, _, _, _, _, _, _, _, _, _, _, _, _, _, _, _, _, _, _, _, _, _, _, _, _, _, _, _, _, _, _, _, _, _, _, _, _, _, rfl, rfl, HI, by omega, by omega, ?_, HO.out, ?_⟩), ?_⟩
            · omega
            · omega
            · simp [lab, intOf]; omega
      · have HS : Hid (rd s p 10 0 0 = (4, 0, 0)) := (show _ = _ by rw [HR.out.2.2]; exact rd_short (by omega))
        clear HR
        go_wp2
        go_step3
        refine ⟨.inl ⟨rfl, 4, _, _, _, _, _, _, _, _, _, _, _, _, _, _, _, _, _, _, _, _, _, _, _, _, _, _, _, _, _, _, _, _, _, _, _, _, _, _, _, _, _, _, _, _, _, _, rfl, rfl, hid_intro ⟨HS.out, by omega⟩⟩, ?_⟩
        simp [lab, intOf]; omega
    · refine ⟨_, rfl, ?_⟩
      have hu2 : (u : Int) ≤ 18446744073709551615 := by omega
      have h7 : 7 * (k : Int) ≤ 63 := by omega
      have h8 : (0 : Int) ≤ 7 * (k : Int) := by omega
      by_cases hc0 : c = 0
      · have q0 : ((c : Int) == 0) = true := by simp; omega
        by_cases hk0 : 0 < k
        · have q1 : (0 : Int) < 7 * (k : Int) := by omega
          have HS : Hid (rd s p 10 0 0 = (3, 0, 0)) := (show _ = _ by rw [HR.out, if_pos ⟨hc0, hk0⟩])
          clear HR hc0
          go_wp2
          go_step3
          refine ⟨.inl ⟨rfl, 3, _, _, _, _, _, _, _, _, _, _, _, _, _, _, _, _, _, _, _, _, _, _, _, _, _, _, _, _, _, _, _, _, _, _, _, _, _, _, _, _, _, _, _, _, _, _, rfl, rfl, hid_intro ⟨HS.out, by omega⟩⟩, ?_⟩
          simp [lab]
        · have q1 : ¬ (0 : Int) < 7 * (k : Int) := by omega
          have HS : Hid (rd s p 10 0 0 = (0, u, k + 1)) := (show _ = _ by rw [HR.out, if_neg (by omega)])
          clear HR hc0
          go_wp2_with (go_at_call 114; refine (unfold_any u _ (by omega)).mono ?_; rintro e w' ⟨rfl, rfl⟩)
          rw [jumps_ret]
          go_ret3
          exact ⟨fun _ => ret_got (by rw [HS.out]) (by rw [HS.out]; show _ = (p : Int) + ((k + 1 : Nat) : Int); omega), fun h => absurd (by rw [HS.out]) h, (Below.refl _ _).alloc (Nat.le_refl _) _⟩
      · have q0 : ((c : Int) == 0) = false := by simp; omega
        have HS : Hid (rd s p 10 0 0 = (0, u, k + 1)) := (show _ = _ by rw [HR.out, if_neg (by omega)])
        clear HR hc0
        go_wp2_with (go_at_call 114; refine (unfold_any u _ (by omega)).mono ?_; rintro e w' ⟨rfl, rfl⟩)
        rw [jumps_ret]
        go_ret3
        exact ⟨fun _ => ret_got (by rw [HS.out]) (by rw [HS.out]; show _ = (p : Int) + ((k + 1 : Nat) : Int); omega), fun h => absurd (by rw [HS.out]) h, (Below.refl _ _).alloc (Nat.le_refl _) _⟩
set_option maxRecDepth 100000 in
theorem read_neg (s : ByteArray) (x : Int) (w : World) (hx : x < 0) (hm : -9223372036854775808 ≤ x) :
    Calls Tryd.prog 95 #[.string s, .int .i64 x] w fun e w' => e = .returned (.tuple #[.int .i64 0, .int .i64 0, .iface 127 (.agg #[.int .i64 1])]) ∧ Below w.heap.size w w' := by
  go_enter Tryd.func95, Tryd.ntmps95
  go_wp2
  refine wp_scope_multi (fun l a' w' => l = 0 ∧ ∃ (x1 x7 x8 x9 u11 u12 u13 u14 u15 u16 u17 u18 u19 u20 u21 u22 u23 u24 u25 u26 u27 u28 u29 u30 u31 u32 u33 u34 u35 u36 u37 u38 u39 u40 u41 u42 u43 u44 u45 u46 u47 u48 u49 u50 u51 u52 : Value), a' = { tmps := #[Value.string s, x1, undef, undef, Value.int .i64 0, Value.int .i64 0, Value.nilIface, x7, x8, x9, Value.pointer (some ⟨w.heap.size, 0, none⟩), u11, u12, u13, u14, u15, u16, u17, u18, u19, u20, u21, u22, u23, u24, u25, u26, u27, u28, u29, u30, u31, u32, u33, u34, u35, u36, u37, u38, u39, u40, u41, u42, u43, u44, u45, u46, u47, u48, u49, u50, u51, u52], defers := [] } ∧ w' = w.alloc (.cells #[.int .i64 1] 127)) (fun _ _ _ => 0) ?_ ?_
  · go_wp2
    go_step3
    exact ⟨rfl, _, _, _, _, _, _, _, _, _, _, _, _, _, _, _, _, _, _, _, _, _, _, _, _, _, _, _, _, _, _, _, _, _, _, _, _, _, _, _, _, _, _, _, _, _, _, rfl, rfl⟩
  · rintro l a' w' ⟨rfl, x1, x7, x8, x9, u11, u12, u13, u14, u15, u16, u17, u18, u19, u20, u21, u22, u23, u24, u25, u26, u27, u28, u29, u30, u31, u32, u33, u34, u35, u36, u37, u38, u39, u40, u41, u42, u43, u44, u45, u46, u47, u48, u49, u50, u51, u52, rfl, rfl⟩
    refine ⟨_, rfl, ?_⟩
    go_wp2
    go_quiet (fail)
    go_wp2
    rw [jumps_ret]
    go_ret3
    exact ⟨rfl, below_drewN ((Below.refl _ _).alloc (Nat.le_refl _) _) _⟩
end GetR
end Go.Proofs.YtnlmpejgiakepaaDoor
namespace Go.Proofs.YtnlmpejgiakepaaDoor
open Go.ChangeShapes Go.WideShapes Go.ChangeAt Go.RowKit
open Go.ChangeMaps (open_string shut_string)
set_option linter.unusedVariables false
namespace GetR
/-- The answer, of what is read. -/
def outN (p : Nat) (r : Nat × Nat × Nat) : Value := if r.1 = 0 then .agg #[.int .i64 (unz r.2.1), .int .i64 ((p : Int) + r.2.2), .int .i64 0] else .agg #[.int .i64 0, .int .i64 0, .int .i64 r.1]
theorem outN_bad {p : Nat} {r : Nat × Nat × Nat} {c : Nat} (h : r = (c, 0, 0)) (hc : c ≠ 0) : outN p r = .agg #[.int .i64 0, .int .i64 0, .int .i64 c] := by
  rw [h]; exact if_neg hc
theorem outN_got {p : Nat} {r : Nat × Nat × Nat} {u n : Nat} (h : r = (0, u, n)) : outN p r = .agg #[.int .i64 (unz u), .int .i64 ((p : Int) + n), .int .i64 0] := by
  rw [h]; exact if_pos rfl
/-- What the model's round adds. -/
theorem add_plus {s : ByteArray} {p k u : Nat} (h : RdI s p k u) (hp : p + k < s.size) (h9 : ¬ (k = 9 ∧ 1 < s[p + k].toNat)) :
    IntKind.u64.wrap ((u : Int) + IntKind.u64.wrap ((s[p + k].toNat : Int) % 128 * 2 ^ (7 * k))) = ((u + s[p + k].toNat % 128 * 2 ^ (7 * k) : Nat) : Int) := by
  have ht := top64 h hp h9
  obtain ⟨c, hcc⟩ : ∃ c, c = s[p + k].toNat := ⟨_, rfl⟩
  rw [← hcc] at ht ⊢
  obtain ⟨q, hq⟩ : ∃ q, q = 2 ^ (7 * k) := ⟨_, rfl⟩
  have e2 : ((2 : Int) ^ (7 * k)) = ((2 ^ (7 * k) : Nat) : Int) := by simp
  rw [e2]
  rw [← hq] at ht ⊢
  have e4 : (c : Int) % 128 * ((q : Nat) : Int) = ((c % 128 * q : Nat) : Int) := by simp
  rw [e4]
  obtain ⟨m, hm⟩ : ∃ m, m = c % 128 * q := ⟨_, rfl⟩
  rw [← hm] at ht ⊢
  rw [u64wrap, u64wrap]
  omega
theorem ret_v {a b : Value} (h : a = b) : Ending.returned a = .returned b := by rw [h]
theorem odd_form (v : Nat) (h : (v : Int) ≤ 18446744073709551615) : wrap64 (-((v : Int) / 2) - 1) = -((v / 2 : Nat) : Int) - 1 := by simp only [wrap64]; omega
set_option maxRecDepth 100000 in
set_option maxHeartbeats 4000000 in
theorem spec_any (s : ByteArray) (p : Nat) (w : World) (hs : s.size ≤ 8000) (hm : (p : Int) ≤ 9223372036854775807) :
    Calls Tryd.prog 67 #[.string s, .int .i64 p] w fun e w' => e = .returned (outN p (rd s p 10 0 0)) ∧ Below w.heap.size w w' := by
  go_enter Tryd.func67, Tryd.ntmps67
  go_wp2
  go_loop [5, 6, 7, 8] (fun x i _ _ => ∃ (k u : Nat) (xi xu : Int), i = .int .i64 xi ∧ x = .int .u64 xu ∧ Hid (RdI s p k u) ∧ k ≤ 9 ∧ xi = k ∧ xu = u) (fun _ i _ _ => 10 - (intOf i).toNat)
  case atStart => exact ⟨0, 0, 0, 0, rfl, rfl, rdI_zero s p, by omega, rfl, rfl⟩
  case round =>
    obtain ⟨k, u, xi, xu, rfl, rfl, HR, hk, rfl, rfl⟩ := hrel
    by_cases hp : (p : Int) + k < s.size
    · have hpN : p + k < s.size := by omega
      have hp2 : ¬ (s.size : Int) - k ≤ p := by omega
      have hb2 : (s[p + k].toNat : Int) ≤ 255 := by have := UInt8.toNat_lt s[p + k]; omega
      by_cases hbad : k = 9 ∧ 1 < s[p + k].toNat
      · have h63 : ((k : Int) == 9) = true := by simp; omega
        have hc1 : (1 : Int) < (s[p + k].toNat : Int) := by omega
        have HS : Hid (rd s p 10 0 0 = (3, 0, 0)) := (show _ = _ by rw [HR.out.2.2]; exact rd_nine hpN hbad.1 hbad.2)
        clear HR hbad
        go_wp2
        refine bodyPost_ret (v := .agg #[.int .i64 0, .int .i64 0, .int .i64 3]) (by simp [results, Tryd.results67, go_sem]) rfl ⟨ret_v (outN_bad HS.out (by omega)).symm, (Below.refl _ _).alloc (Nat.le_refl _) _⟩
      · obtain ⟨v, hv⟩ : ∃ v, v = u + s[p + k].toNat % 128 * 2 ^ (7 * k) := ⟨_, rfl⟩
        have hV := add_plus HR.out hpN hbad
        have ht := top64 HR.out hpN hbad
        rw [← hv] at hV ht
        have hv2 : (v : Int) ≤ 18446744073709551615 := by omega
        have HV : Hid (v = u + s[p + k].toNat % 128 * 2 ^ (7 * k)) := hv
        have HB : Hid (¬ (k = 9 ∧ 1 < s[p + k].toNat)) := hbad
        clear hv hbad
        have key : ((k : Int) == 9) = false ∨ (((k : Int) == 9) = true ∧ ¬ (1 : Int) < (s[p + k].toNat : Int)) := by
          by_cases h9 : k = 9
          · refine .inr ⟨by simp; omega, ?_⟩
            have := HB.out
            omega
          · exact .inl (by simp; omega)
        by_cases hc : (s[p + k].toNat : Int) < 128
        · by_cases hz : s[p + k].toNat = 0 ∧ 0 < k
          · have q0 : ((s[p + k].toNat : Int) == 0) = true := by simp; omega
            have q1 : (0 : Int) < (k : Int) := by omega
            have HS : Hid (rd s p 10 0 0 = (3, 0, 0)) := (show _ = _ by rw [HR.out.2.2]; exact rd_zero hpN hz.1 hz.2)
            clear HR hz
            rcases key with h63 | ⟨h63, hc1⟩
            all_goals
              go_wp2
              refine bodyPost_ret (v := .agg #[.int .i64 0, .int .i64 0, .int .i64 3]) (by simp [results, Tryd.results67, go_sem]) rfl ⟨ret_v (outN_bad HS.out (by omega)).symm, (Below.refl _ _).alloc (Nat.le_refl _) _⟩
          · have HS : Hid (rd s p 10 0 0 = (0, v, k + 1)) := (show _ = _ by rw [HR.out.2.2, HV.out]; exact rd_last hpN HB.out (by omega) hz)
            have hz2 : (((s[p + k].toNat : Int) == 0) = false) ∨ (((s[p + k].toNat : Int) == 0) = true ∧ ¬ (0 : Int) < (k : Int)) := by
              by_cases h0 : s[p + k].toNat = 0
              · exact .inr ⟨by simp; omega, by omega⟩
              · exact .inl (by simp; omega)
            have HO := hid_intro (odd_form v hv2)
            clear HR hz
            by_cases hpar : v % 2 = 1
            · have q2 : ((v : Int) % 2 == 1) = true := by simp; omega
              have HF : Hid (outN p (rd s p 10 0 0) = .agg #[.int .i64 (-((v : Int) / 2) - 1), .int .i64 ((p : Int) + k + 1), .int .i64 0]) := (show _ = _ by rw [outN_got HS.out, unz_odd hpar]; congr 4)
              clear hpar HS HO
              rcases key with h63 | ⟨h63, hc1⟩
              all_goals
                rcases hz2 with q0 | ⟨q0, q1⟩
                all_goals
                  go_wp2
                  refine bodyPost_ret (v := .agg #[.int .i64 (-((v : Int) / 2) - 1), .int .i64 ((p : Int) + k + 1), .int .i64 0]) (by simp [results, Tryd.results67, go_sem]) rfl ⟨ret_v HF.out.symm, (Below.refl _ _).alloc (Nat.le_refl _) _⟩
            · have q2 : ((v : Int) % 2 == 1) = false := by simp; omega
              have HF : Hid (outN p (rd s p 10 0 0) = .agg #[.int .i64 ((v : Int) / 2), .int .i64 ((p : Int) + k + 1), .int .i64 0]) := (show _ = _ by rw [outN_got HS.out, unz_even (by omega)]; congr 4)
              clear hpar HS HO
              rcases key with h63 | ⟨h63, hc1⟩
              all_goals
                rcases hz2 with q0 | ⟨q0, q1⟩
                all_goals
                  go_wp2
                  refine bodyPost_ret (v := .agg #[.int .i64 ((v : Int) / 2), .int .i64 ((p : Int) + k + 1), .int .i64 0]) (by simp [results, Tryd.results67, go_sem]) rfl ⟨ret_v HF.out.symm, (Below.refl _ _).alloc (Nat.le_refl _) _⟩
        · rcases key with h63 | ⟨h63, hc1⟩
          · have HI : Hid (RdI s p (k + 1) v) := (show RdI _ _ _ _ by rw [HV.out]; exact rdI_more HR.out hpN (by intro e; subst e; simp at h63) (by omega))
            clear HR
            have hk8 : k + 1 ≤ 9 := HI.out.1
            go_wp2
            go_round
            case rel => exact ⟨k + 1, v, _, _, rfl, rfl, HI, hk8, by omega, rfl⟩
            case measure => simp [intOf]; omega
          · exfalso; omega
    · have HS : Hid (rd s p 10 0 0 = (4, 0, 0)) := (show _ = _ by rw [HR.out.2.2]; exact rd_short (by omega))
      have hp2 : (s.size : Int) - k ≤ p := by omega
      clear HR
      go_wp2
      refine bodyPost_ret (v := .agg #[.int .i64 0, .int .i64 0, .int .i64 4]) (by simp [results, Tryd.results67, go_sem]) rfl ⟨ret_v (outN_bad HS.out (by omega)).symm, (Below.refl _ _).alloc (Nat.le_refl _) _⟩
end GetR
end Go.Proofs.YtnlmpejgiakepaaDoor
namespace Go.Proofs.YtnlmpejgiakepaaDoor
open Go.ChangeShapes Go.WideShapes Go.ChangeAt Go.RowKit
open Go.ChangeMaps (open_string shut_string)
set_option linter.unusedVariables false
namespace NumR
theorem hid_intro {p : Prop} (h : p) : Hid p := h
def foldN (n : Int) : Int := if n < 0 then 2 * -(n + 1) + 1 else 2 * n
theorem fold_bd {n : Int} (hn : -9223372036854775808 ≤ n ∧ n ≤ 9223372036854775807) : 0 ≤ foldN n ∧ foldN n ≤ 18446744073709551615 := by
  unfold foldN; split <;> omega
theorem fold_neg {n : Int} (h : n < 0) : foldN n = 2 * -(n + 1) + 1 := if_pos h
theorem fold_pos {n : Int} (h : 0 ≤ n) : foldN n = 2 * n := if_neg (by omega)
theorem u64wrap (n : Int) : IntKind.u64.wrap n = n % 18446744073709551616 := by simp [IntKind.wrap, IntKind.bits, IntKind.signed]
theorem xor_ones (x : Int) (h0 : 0 ≤ x) (h1 : x ≤ 18446744073709551615) : bits .xor .u64 IntKind.u64.max x = 18446744073709551615 - x := by
  have hm : BitVec.ofInt 64 IntKind.u64.max = BitVec.allOnes 64 := by decide
  have hx : (BitVec.ofInt 64 x).toNat = x.toNat := by
    rw [BitVec.toNat_ofInt]; congr 1; exact Int.emod_eq_of_lt h0 (by omega)
  show IntKind.u64.wrap ((BitVec.ofInt 64 IntKind.u64.max ^^^ BitVec.ofInt 64 x).toNat : Int) = _
  rw [hm, BitVec.allOnes_xor, BitVec.toNat_not, hx, u64wrap]
  omega
theorem fold_bits {n : Int} (h : n < 0) (hn : -9223372036854775808 ≤ n) : bits .xor .u64 IntKind.u64.max (IntKind.u64.wrap (IntKind.u64.wrap n * 2)) = foldN n := by
  have e : IntKind.u64.wrap (IntKind.u64.wrap n * 2) = 2 * n + 18446744073709551616 := by rw [u64wrap, u64wrap]; omega
  rw [e, xor_ones _ (by omega) (by omega), fold_neg h]; omega
theorem spec_fold (n : Int) (w : World) (hn : -9223372036854775808 ≤ n ∧ n ≤ 9223372036854775807) :
    Calls Tryd.prog 112 #[.int .i64 n] w fun e w' => e = .returned (.int .u64 (foldN n)) ∧ w' = w := by
  by_cases h : n < 0
  · rw [fold_neg h]
    go_enter Tryd.func112, Tryd.ntmps112
    go_wp2
    go_ret
    exact ⟨rfl, rfl⟩
  · rw [fold_pos (by omega)]
    go_enter Tryd.func112, Tryd.ntmps112
    go_wp2
    go_ret
    exact ⟨rfl, rfl⟩
/-- A number's digits of seven bits, the lowest first, 128 more in all but the last. -/
def digs (v : Nat) : List Int := if v < 128 then [(v : Int)] else ((v : Int) % 128 + 128) :: digs (v / 128)
  termination_by v
  decreasing_by omega
theorem digs_last {v : Nat} (h : v < 128) : digs v = [(v : Int)] := by rw [digs, if_pos h]
theorem digs_more {v : Nat} (h : 128 ≤ v) : digs v = ((v : Int) % 128 + 128) :: digs (v / 128) := by rw [digs, if_neg (by omega)]
/-- What stands of the digits behind some rounds. -/
def Sofar (U : Nat) (acc : List Int) (v : Nat) : Prop := digs U = acc ++ digs v ∧ v * 128 ^ acc.length ≤ U ∧ (acc = [] ∨ 1 ≤ v)
theorem sofar_zero (U : Nat) : Sofar U [] U := ⟨rfl, by simp, .inl rfl⟩
theorem sofar_more {U v : Nat} {acc : List Int} (h : Sofar U acc v) (hv : 128 ≤ v) : Sofar U (acc ++ [((v : Int) % 128 + 128)]) (v / 128) := by
  refine ⟨by rw [h.1, digs_more hv]; simp, ?_, .inr (by omega)⟩
  have h2 := h.2.1
  have : v / 128 * 128 ≤ v := Nat.div_mul_le_self v 128
  simp only [List.length_append, List.length_cons, List.length_nil, Nat.zero_add, Nat.pow_succ]
  calc v / 128 * (128 ^ acc.length * 128) = (v / 128 * 128) * 128 ^ acc.length := by rw [Nat.mul_comm (128 ^ acc.length) 128, Nat.mul_assoc]
    _ ≤ v * 128 ^ acc.length := Nat.mul_le_mul_right _ this
    _ ≤ U := h2
theorem sofar_end {U v : Nat} {acc : List Int} (h : Sofar U acc v) (hv : v < 128) : digs U = acc ++ [(v : Int)] := by rw [h.1, digs_last hv]
theorem pow_le_pow {a b : Nat} (h : a ≤ b) : 128 ^ a ≤ 128 ^ b := Nat.pow_le_pow_right (by omega) h
theorem sofar_len {U v : Nat} {acc : List Int} (h : Sofar U acc v) (hU : U ≤ 18446744073709551615) (hv : 128 ≤ v) : acc.length ≤ 8 := by
  refine Nat.le_of_not_lt fun hlt => ?_
  have h1 := pow_le_pow (show 9 ≤ acc.length by omega)
  have h2 : 128 * 128 ^ 9 ≤ v * 128 ^ acc.length := Nat.mul_le_mul hv h1
  have := Nat.le_trans h2 h.2.1
  omega
theorem sofar_len9 {U v : Nat} {acc : List Int} (h : Sofar U acc v) (hU : U ≤ 18446744073709551615) : acc.length ≤ 9 := by
  refine Nat.le_of_not_lt fun hlt => ?_
  rcases h.2.2 with h0 | h0
  · rw [h0] at hlt; simp at hlt
  · have h1 := pow_le_pow (show 10 ≤ acc.length by omega)
    have h2 : 1 * 128 ^ 10 ≤ v * 128 ^ acc.length := Nat.mul_le_mul h0 h1
    have := Nat.le_trans h2 h.2.1
    omega
theorem sofar_le {U v : Nat} {acc : List Int} (h : Sofar U acc v) : v ≤ U := by
  have : 1 ≤ 128 ^ acc.length := Nat.pos_of_ne_zero (by simp)
  calc v = v * 1 := by omega
    _ ≤ v * 128 ^ acc.length := Nat.mul_le_mul_left _ this
    _ ≤ U := h.2.1
theorem low7 (k : Nat) (h : (k : Int) ≤ 18446744073709551615) : bits .or .u8 (bits .and .u64 (k : Int) 127 % 256) 128 = (k : Int) % 128 + 128 := by
  have h1 : bits .and .u64 (k : Int) 127 = ((k % 128 : Nat) : Int) := by
    have := u64_and_nat k 127 (by omega) (by omega)
    rw [show ((127 : Nat) : Int) = 127 from rfl] at this
    rw [this]
    congr 1
    exact Nat.and_two_pow_sub_one_eq_mod k 7
  rw [h1]
  have h2 : ((k % 128 : Nat) : Int) % 256 = ((k % 128 : Nat) : Int) := by omega
  rw [h2]
  have h3 := u8_or_nat (k % 128) 128 (by omega) (by omega)
  rw [show ((128 : Nat) : Int) = 128 from rfl] at h3
  rw [h3, Nat.or_comm, nat_join 7 128 (k % 128) (by decide) (by omega)]
  omega
theorem take_set {C : List Value} {m : Nat} {x : Value} (h : m < C.length) : (C.set m x).take (m + 1) = C.take m ++ [x] := by
  rw [List.take_succ_eq_append_getElem (by simpa using h), List.take_set_of_le (Nat.le_refl _)]
  simp
def numB (n : Int) : ByteArray := strOfNums (digs (foldN n).toNat)

theorem own_string {w : World} {base n : Nat} {v : Value} {xs : List Int} (h : w.ownsRow base 5 1 v n (xs.map (Value.int .u8))) (hn : 0 < n) :
    ∃ g cap, v = .slice (some ⟨g, 0, none⟩) n cap ∧ (convert 118 9 (.slice (some ⟨g, 0, none⟩) n cap)).run Tryd.prog w = .ok (.string (strOfNums xs)) w := by
  have hl := h.1
  rcases h.2 with ⟨_, h0⟩ | ⟨g, cap, cur, hv, _⟩
  · omega
  · refine ⟨g, cap, hv, ?_⟩
    have hlen : xs.length = n := by simpa using hl
    refine run_convert_bytes_arg w 118 5 Tryd.underlying118 Tryd.underlying5 g 0 n cap xs hlen ?_ 9 Tryd.underlying9
    intro i hi
    have := h.cells (g := g) (by rw [hv]; rfl) i (.int .u8 (xs.getD i 0)) (by simp [List.getElem?_map, List.getD, List.getElem?_eq_getElem (show i < xs.length by omega)])
    rw [← this]
    congr 1
    unfold Addr.add; split <;> simp_all
theorem Trydinfo5 : (Tryd.prog.info? 5).map (fun i => (i.zero, i.size, i.bytes)) = some (some (.int .u8 0), 1, 1) := by kernel_rfl
set_option maxRecDepth 100000 in
set_option maxHeartbeats 1000000 in
theorem spec_put (n : Int) (w : World) (hn : -9223372036854775808 ≤ n ∧ n ≤ 9223372036854775807) :
    Calls Tryd.prog 93 #[.int .i64 n] w fun e w' => e = .returned (.string (numB n)) ∧ Below w.heap.size w w' := by
  obtain ⟨U, hU⟩ : ∃ U : Nat, (U : Int) = foldN n := ⟨(foldN n).toNat, by have := fold_bd hn; omega⟩
  have hbd := fold_bd hn
  have h1 := fun w => spec_fold n w hn
  have HE : Hid (numB n = strOfNums (digs U)) := (show _ = _ by unfold numB; rw [← hU]; rfl)
  rw [← hU] at h1 hbd
  clear hU
  obtain ⟨i0, hi, hz0, hz1, hz2⟩ := info_parts Trydinfo5
  go_enter Tryd.func93, Tryd.ntmps93
  go_wp2_with (first | (go_at_call 112; refine (h1 _).mono ?_; rintro e w ⟨rfl, rfl⟩))
  clear h1
  have HU : Hid (U ≤ 18446744073709551615) := hid_intro (by omega)
  clear hbd hn
  have hown0 := World.ownsRow_made (base := w.heap.size) (e := 5) (size := 1) w #[] 0 (Nat.le_refl _) (by unfold maxLen; omega) rfl
  have hbel0 : Below w.heap.size w (w.alloc (Obj.cells #[] 5)) := (Below.refl _ _).alloc (Nat.le_refl _) _
  go_loopw [3, 4] (fun x v wr => ∃ (k : Nat) (acc : List Int), x = .int .u64 k ∧ Hid (Sofar U acc k) ∧ k ≤ U ∧ wr.ownsRow w.heap.size 5 1 v acc.length (acc.map (Value.int .u8)) ∧ Below w.heap.size w wr) (fun x _ _ => (intOf x).toNat)
  case atStart => exact ⟨U, [], rfl, sofar_zero U, Nat.le_refl _, hown0, hbel0⟩
  case round =>
    obtain ⟨k, acc, rfl, HS, hkU, hown, hnx⟩ := hrel
    clear hown0 hbel0
    by_cases hk : 128 ≤ k
    · have hlen := sofar_len HS.out HU.out hk
      have hk64 : (k : Int) ≤ 18446744073709551615 := by have := HU.out; omega
      have HS2 : Hid (Sofar U (acc ++ [((k : Int) % 128 + 128)]) (k / 128)) := sofar_more HS.out hk
      clear HS
      go_wp2_with (at_builtin; refine wpList_append_own _ rfl _ _ 118 rfl w.heap.size 5 i0 (.int .u8 0) 1 1 Tryd.underlying118 hi hz0 hz1 hz2 rfl (by decide) _ _ _ rfl (hown.alloc _) ⟨wr.heap.size, 0, none⟩ 1 1 [.int .u8 ((k : Int) % 128 + 128)] rfl rfl ?c1 ?c2 ?c3 ?c4 ?c5 ?_)
      case c1 =>
        intro j u hj
        match j, hj with
        | 0, hj => simp at hj; subst hj; simp [Addr.add]
      case c2 => intro u hu; simp at hu; subst hu; rfl
      case c3 => unfold maxLen; omega
      case c4 => omega
      case c5 => have := hnx.size; simp; omega
      intro v' w1 hown' hgrow hne
      have hb1 : Below w.heap.size w w1 := (hnx.alloc hnx.size _).grown hgrow (by have := hnx.size; simp; omega) (fun g hg => (hown.lt g hg).1)
      have hown2 : w1.ownsRow w.heap.size 5 1 v' (acc ++ [((k : Int) % 128 + 128)]).length ((acc ++ [((k : Int) % 128 + 128)]).map (Value.int .u8)) := by
        simpa using hown'
      clear hown' hgrow hown hnx hne
      go_wp2
      go_roundw
      case rel => exact ⟨k / 128, _, by go_num, HS2, by omega, hown2, hb1⟩
      case measure => simp [intOf]; omega
    · have hk2 : (k : Int) < 128 := by omega
      have HD : Hid (digs U = acc ++ [(k : Int)]) := sofar_end HS.out (by omega)
      have hlen : acc.length ≤ 9 := sofar_len9 HS.out HU.out
      clear HS
      go_wp2_with (at_builtin; refine wpList_append_own _ rfl _ _ 118 rfl w.heap.size 5 i0 (.int .u8 0) 1 1 Tryd.underlying118 hi hz0 hz1 hz2 rfl (by decide) _ _ _ rfl (hown.alloc _) ⟨wr.heap.size, 0, none⟩ 1 1 [.int .u8 (k : Int)] rfl rfl ?d1 ?d2 ?d3 ?d4 ?d5 ?_)
      case d1 =>
        intro j u hj
        match j, hj with
        | 0, hj => simp at hj; subst hj; simp [Addr.add]
      case d2 => intro u hu; simp at hu; subst hu; rfl
      case d3 => unfold maxLen; omega
      case d4 => omega
      case d5 => have := hnx.size; simp; omega
      intro v' w1 hown' hgrow hne
      have hb1 : Below w.heap.size w w1 := (hnx.alloc hnx.size _).grown hgrow (by have := hnx.size; simp; omega) (fun g hg => (hown.lt g hg).1)
      have hown2 : w1.ownsRow w.heap.size 5 1 v' (acc.length + 1) ((acc ++ [(k : Int)]).map (Value.int .u8)) := by
        simpa using hown'
      obtain ⟨g, cap, hv, hconv⟩ := own_string hown2 (by omega)
      clear hown' hgrow hown hnx hne hown2
      rw [hv]
      clear hv
      go_wp2
      go_ret
      exact ⟨ret_str (by rw [HE.out, HD.out]), hb1⟩
theorem digs_len : ∀ (m v : Nat), v < 128 ^ (m + 1) → (digs v).length ≤ m + 1
  | 0, v, h => by rw [digs_last (by simpa using h)]; simp
  | m + 1, v, h => by
    by_cases hv : v < 128
    · rw [digs_last hv]; simp
    · rw [digs_more (by omega)]
      have : v / 128 < 128 ^ (m + 1) := by rw [Nat.div_lt_iff_lt_mul (by omega)]; rw [Nat.pow_succ] at h; exact h
      have := digs_len m (v / 128) this
      simp; omega
theorem numB_size {n : Int} (hn : -9223372036854775808 ≤ n ∧ n ≤ 9223372036854775807) : (numB n).size ≤ 10 := by
  unfold numB
  rw [strOfNums_size]
  have := fold_bd hn
  exact digs_len 9 _ (Nat.lt_of_le_of_lt (show (foldN n).toNat ≤ 18446744073709551615 by omega) (by decide))
end NumR
end Go.Proofs.YtnlmpejgiakepaaDoor
namespace Go.Proofs.YtnlmpejgiakepaaDoor
open Go.RowKit
set_option linter.unusedVariables false
namespace NumsR
open GetR NumR
theorem digs_pos (v : Nat) : 1 ≤ (digs v).length := by
  by_cases h : v < 128
  · rw [digs_last h]; simp
  · rw [digs_more (by omega)]; simp
/-- The bytes at a place are some numbers. -/
def At (s : ByteArray) (b : Nat) (l : List Int) : Prop := ∀ k, k < l.length → ∃ h : b + k < s.size, (s[b + k].toNat : Int) = l.getD k 0
theorem At.tail {s : ByteArray} {b : Nat} {x : Int} {l : List Int} (h : At s b (x :: l)) : At s (b + 1) l := by
  intro k hk
  obtain ⟨h1, h2⟩ := h (k + 1) (by simpa using hk)
  have e : b + 1 + k = b + (k + 1) := by omega
  refine ⟨by omega, ?_⟩
  simp only [e]
  rw [h2]
  simp [List.getD]
theorem At.head {s : ByteArray} {b : Nat} {x : Int} {l : List Int} (h : At s b (x :: l)) : ∃ h : b < s.size, (s[b].toNat : Int) = x := by
  obtain ⟨h1, h2⟩ := h 0 (by simp)
  exact ⟨h1, by simpa using h2⟩
theorem pow_bd {v i : Nat} (h : v * 2 ^ (7 * i) < 18446744073709551616) (hi : i = 9) : v < 2 := by
  subst hi
  refine Nat.lt_of_not_le fun h2 => ?_
  have : 2 * 2 ^ (7 * 9) ≤ v * 2 ^ (7 * 9) := Nat.mul_le_mul_right _ h2
  omega
theorem step_sum (u v i : Nat) : u + v % 128 * 2 ^ (7 * i) + v / 128 * 2 ^ (7 * (i + 1)) = u + v * 2 ^ (7 * i) := by
  have e : 2 ^ (7 * (i + 1)) = 128 * 2 ^ (7 * i) := by rw [show 7 * (i + 1) = 7 * i + 7 from by omega, Nat.pow_add, Nat.mul_comm]
  rw [e]
  obtain ⟨q, hq⟩ : ∃ q, q = 2 ^ (7 * i) := ⟨_, rfl⟩
  rw [← hq]
  have h1 : v / 128 * (128 * q) = (128 * (v / 128)) * q := by rw [← Nat.mul_assoc, Nat.mul_comm (v / 128) 128]
  rw [h1, Nat.add_assoc, ← Nat.add_mul]
  congr 2
  omega
theorem step_le (v i : Nat) (h : v * 2 ^ (7 * i) < 18446744073709551616) : v / 128 * 2 ^ (7 * (i + 1)) < 18446744073709551616 := by
  have := step_sum 0 v i
  omega
theorem rd_digs (s : ByteArray) (p : Nat) : ∀ (f v i u : Nat), At s (p + i) (digs v) → (digs v).length ≤ f → i + f = 10 → (0 < i → 0 < v) → v * 2 ^ (7 * i) < 18446744073709551616 → rd s p f i u = (0, u + v * 2 ^ (7 * i), i + (digs v).length)
  | 0, v, i, u, _, hl, _, _, _ => by have := digs_pos v; omega
  | f + 1, v, i, u, hA, hl, hf, hi, hv => by
    by_cases h : v < 128
    · rw [digs_last h] at hA ⊢
      obtain ⟨h1, h2⟩ := hA.head
      have hc : s[p + i].toNat = v := by omega
      rw [rd_last h1 (fun ⟨e, h3⟩ => by have := pow_bd hv e; omega) (by omega) (fun ⟨e, h3⟩ => by have := hi h3; omega), hc, Nat.mod_eq_of_lt h]
      rfl
    · have h128 : 128 ≤ v := by omega
      rw [digs_more h128] at hA hl ⊢
      obtain ⟨h1, h2⟩ := hA.head
      have hc : s[p + i].toNat = v % 128 + 128 := by omega
      have h9 : i ≠ 9 := fun e => by have := pow_bd hv e; omega
      rw [rd_more h1 h9 (by omega), hc]
      have hm : (v % 128 + 128) % 128 = v % 128 := by omega
      rw [hm]
      have ih := rd_digs s p f (v / 128) (i + 1) (u + v % 128 * 2 ^ (7 * i)) hA.tail (by simpa using hl) (by omega) (fun _ => by omega) (step_le v i hv)
      rw [ih, step_sum]
      simp only [List.length_cons, Prod.mk.injEq, true_and]
      omega
/-- All digits but the last one. -/
theorem rd_cut (s : ByteArray) (p : Nat) : ∀ (f v i u : Nat), At s (p + i) ((digs v).take ((digs v).length - 1)) → s.size = p + i + ((digs v).length - 1) → (digs v).length ≤ f → i + f = 10 → v * 2 ^ (7 * i) < 18446744073709551616 → rd s p f i u = (4, 0, 0)
  | 0, v, i, u, _, _, hl, _, _ => by have := digs_pos v; omega
  | f + 1, v, i, u, hA, hs, hl, hf, hv => by
    by_cases h : v < 128
    · rw [digs_last h] at hs
      exact rd_short (by simp at hs; omega)
    · have h128 : 128 ≤ v := by omega
      have hp := digs_pos (v / 128)
      rw [digs_more h128] at hA hl hs
      simp only [List.length_cons, Nat.add_sub_cancel] at hA hl hs
      obtain ⟨n, hn⟩ : ∃ n, (digs (v / 128)).length = n + 1 := ⟨(digs (v / 128)).length - 1, by omega⟩
      rw [hn, List.take_succ_cons] at hA
      obtain ⟨h1, h2⟩ := hA.head
      have hc : s[p + i].toNat = v % 128 + 128 := by omega
      have h9 : i ≠ 9 := fun e => by have := pow_bd hv e; omega
      rw [rd_more h1 h9 (by omega)]
      refine rd_cut s p f (v / 128) (i + 1) _ ?_ (by omega) (by omega) (by omega) (step_le v i hv)
      have e : (digs (v / 128)).length - 1 = n := by omega
      rw [e]
      exact hA.tail
theorem unz_fold {n : Int} (hn : -9223372036854775808 ≤ n ∧ n ≤ 9223372036854775807) : unz (foldN n).toNat = n := by
  by_cases h : n < 0
  · rw [fold_neg h, unz_odd (by omega)]; omega
  · rw [fold_pos (by omega), unz_even (by omega)]; omega
end NumsR
end Go.Proofs.YtnlmpejgiakepaaDoor
namespace Go.Proofs.YtnlmpejgiakepaaDoor
open Go.RowKit
set_option linter.unusedVariables false
namespace NumsR
open GetR NumR
theorem rd_back (s : ByteArray) (p : Nat) : ∀ (f i u U n : Nat), rd s p f i u = (0, U, n) → ∃ v : Nat, U = u + v * 2 ^ (7 * i) ∧ n = i + (digs v).length ∧ At s (p + i) (digs v) ∧ (0 < i → 0 < v)
  | 0, i, u, U, n, h => by simp [rd] at h
  | f + 1, i, u, U, n, h => by
    rw [rd] at h
    split at h
    · rename_i hp
      split at h
      · simp at h
      · split at h
        · rename_i h9 hc
          split at h
          · simp at h
          · rename_i hz
            simp only [Prod.mk.injEq, true_and] at h
            obtain ⟨h1, h2⟩ := h
            have hm : s[p + i].toNat % 128 = s[p + i].toNat := Nat.mod_eq_of_lt hc
            refine ⟨s[p + i].toNat, by rw [← h1, hm], by rw [digs_last hc]; simp; omega, ?_, fun hi => by omega⟩
            rw [digs_last hc]
            intro k hk
            obtain rfl : k = 0 := by simpa using hk
            exact ⟨by omega, by simp⟩
        · rename_i h9 hc
          obtain ⟨v, h1, h2, h3, h4⟩ := rd_back s p f (i + 1) _ U n h
          have hv := h4 (by omega)
          have hlt := s[p + i].toNat_lt
          refine ⟨s[p + i].toNat % 128 + 128 * v, ?_, ?_, ?_, fun _ => by omega⟩
          · rw [h1, ← step_sum u (s[p + i].toNat % 128 + 128 * v) i]
            rw [show (s[p + i].toNat % 128 + 128 * v) % 128 = s[p + i].toNat % 128 by omega, show (s[p + i].toNat % 128 + 128 * v) / 128 = v by omega]
          · rw [digs_more (by omega), show (s[p + i].toNat % 128 + 128 * v) / 128 = v by omega, h2]
            simp only [List.length_cons]
            omega
          · rw [digs_more (by omega), show (s[p + i].toNat % 128 + 128 * v) / 128 = v by omega]
            intro k hk
            cases k with
            | zero =>
              refine ⟨by omega, ?_⟩
              simp
              omega
            | succ k =>
              obtain ⟨g1, g2⟩ := h3 k (by simpa using hk)
              have e : p + i + (k + 1) = p + (i + 1) + k := by omega
              refine ⟨by omega, ?_⟩
              simp only [e, g2]
              simp [List.getD]
    · simp at h
theorem fold_unz {u : Nat} (h : u < 18446744073709551616) : (foldN (unz u)).toNat = u := by
  by_cases h1 : u % 2 = 1
  · rw [unz_odd h1, fold_neg (by omega)]; omega
  · rw [unz_even (by omega), fold_pos (by omega)]; omega
/-- Bytes at a place, as a text. -/
theorem at_extract (s : ByteArray) (p : Nat) (l : List Int) (hl : ∀ x ∈ l, 0 ≤ x ∧ x < 256) (h : At s p l) : s.extract p (p + l.length) = strOfNums l := by
  have hsz : p + l.length ≤ s.data.size ∨ l.length = 0 := by
    cases hn : l.length with
    | zero => exact .inr rfl
    | succ n =>
      obtain ⟨h1, _⟩ := h n (by omega)
      have e : s.data.size = s.size := rfl
      exact .inl (by omega)
  apply ByteArray.ext
  apply Array.toList_inj.1
  rw [strOfNums_data]
  apply List.ext_getElem
  · simp only [ByteArray.data_extract, Array.length_toList, Array.size_extract, List.length_map]
    omega
  · intro i h1 h2
    have hi : i < l.length := by simpa using h2
    obtain ⟨g1, g2⟩ := h i hi
    simp only [ByteArray.data_extract, Array.getElem_toList, Array.getElem_extract, List.getElem_map]
    have hx : l.getD i 0 = l[i] := by simp [List.getD, hi]
    have hb := hl l[i] (List.getElem_mem hi)
    apply UInt8.toNat_inj.1
    have e1 : ((s.data[p + i]'g1).toNat : Int) = l[i] := by rw [← hx]; exact g2
    rw [UInt8.toNat_ofNat']
    omega
end NumsR
end Go.Proofs.YtnlmpejgiakepaaDoor
namespace Go.Proofs.YtnlmpejgiakepaaDoor
open Go.RowKit
set_option linter.unusedVariables false
namespace NumsR
open GetR NumR
theorem rd_bd (s : ByteArray) (p : Nat) : ∀ f i u v n, i + f = 10 → u < 2 ^ (7 * i) → rd s p f i u = (0, v, n) → p + n ≤ s.size ∧ v < 18446744073709551616
  | 0, i, u, v, n, _, _, h => by simp [rd] at h
  | f + 1, i, u, v, n, hf, hu, h => by
    rw [rd] at h
    split at h
    · next hp =>
      split at h
      · simp at h
      · next h9 =>
        split at h
        · split at h
          · simp at h
          · simp only [Prod.mk.injEq, true_and] at h
            obtain ⟨rfl, rfl⟩ := h
            refine ⟨by omega, ?_⟩
            have hc : s[p + i].toNat % 128 ≤ 127 := by omega
            by_cases e : i = 9
            · subst e
              have h1 : u < 9223372036854775808 := hu
              have h2 : s[p + 9].toNat % 128 * 2 ^ (7 * 9) ≤ 1 * 9223372036854775808 := Nat.mul_le_mul (by omega) (Nat.le_refl _)
              omega
            · have := grow7 hu hc
              have := pow7 (show i + 1 ≤ 9 by omega)
              omega
        · exact rd_bd s p f _ _ v n (by omega) (grow7 hu (by omega)) h
    · simp at h
theorem unz_bd {u : Nat} (h : u < 18446744073709551616) : -9223372036854775808 ≤ unz u ∧ unz u ≤ 9223372036854775807 := by
  unfold unz; split <;> omega
theorem digs_bd (v : Nat) : ∀ x ∈ digs v, 0 ≤ x ∧ x < 256 := by
  induction v using Nat.strongRecOn with
  | _ v ih =>
    by_cases h : v < 128
    · rw [digs_last h]; intro x hx; simp at hx; omega
    · rw [digs_more (by omega)]
      intro x hx
      rcases List.mem_cons.1 hx with rfl | hx
      · omega
      · exact ih (v / 128) (by omega) x hx
/-- What is read as a number: it, and the place behind it. -/
def numAt (s : ByteArray) (p : Nat) : Option (Int × Nat) := if (rd s p 10 0 0).1 = 0 then some (unz (rd s p 10 0 0).2.1, p + (rd s p 10 0 0).2.2) else none
def I64 (n : Int) : Prop := -9223372036854775808 ≤ n ∧ n ≤ 9223372036854775807
theorem numAt_back {s : ByteArray} {p : Nat} {n : Int} {q : Nat} (h : numAt s p = some (n, q)) : I64 n ∧ p < q ∧ q ≤ s.size ∧ s.extract p q = numB n := by
  unfold numAt at h
  split at h
  · rename_i h0
    obtain ⟨U, k, hr⟩ : ∃ U k, rd s p 10 0 0 = (0, U, k) := ⟨(rd s p 10 0 0).2.1, (rd s p 10 0 0).2.2, Prod.ext h0 rfl⟩
    rw [hr] at h
    simp only [Option.some.injEq, Prod.mk.injEq] at h
    obtain ⟨rfl, rfl⟩ := h
    obtain ⟨b1, b2⟩ := rd_bd s p 10 0 0 U k rfl (by simp) hr
    obtain ⟨v, h1, h2, h3, _⟩ := rd_back s p 10 0 0 U k hr
    simp only [Nat.mul_zero, Nat.pow_zero, Nat.mul_one, Nat.zero_add] at h1 h2
    subst h1 h2
    have hd := digs_pos U
    refine ⟨unz_bd b2, by omega, b1, ?_⟩
    have := at_extract s p (digs U) (digs_bd U) h3
    rw [this]
    unfold numB
    rw [fold_unz b2]
  · simp at h
theorem at_of (s : ByteArray) (p : Nat) (l : List Int) (hl : ∀ x ∈ l, 0 ≤ x ∧ x < 256) (hs : p + l.length ≤ s.size) (h : s.extract p (p + l.length) = strOfNums l) : At s p l := by
  intro k hk
  refine ⟨by omega, ?_⟩
  have e := congrArg (fun b : ByteArray => b.data.toList[k]?) h
  simp only [strOfNums_data] at e
  have hsz : s.data.size = s.size := rfl
  rw [List.getElem?_eq_getElem (by simp [ByteArray.data_extract]; omega), List.getElem?_eq_getElem (by simpa using hk)] at e
  simp only [ByteArray.data_extract, Array.getElem_toList, Array.getElem_extract, List.getElem_map, Option.some.injEq] at e
  have hx : l.getD k 0 = l[k] := by simp [List.getD, hk]
  have hb := hl l[k] (List.getElem_mem hk)
  have e2 : (s[p + k]'(by omega)).toNat = (l[k]).toNat := by
    have e3 : s[p + k]'(by omega) = s.data[p + k]'(by omega) := rfl
    rw [e3, e, UInt8.toNat_ofNat']
    omega
  rw [hx, e2]
  omega
theorem numB_len (n : Int) : (numB n).size = (digs (foldN n).toNat).length := strOfNums_size _
theorem numAt_put {s : ByteArray} {p : Nat} {n : Int} (hn : I64 n) (hs : p + (numB n).size ≤ s.size) (h : s.extract p (p + (numB n).size) = numB n) : numAt s p = some (n, p + (numB n).size) := by
  have hz := numB_size hn
  rw [numB_len] at hs h hz
  have hb := fold_bd hn
  have hA := at_of s p _ (digs_bd _) hs h
  have hr := rd_digs s p 10 (foldN n).toNat 0 0 hA hz rfl (fun h => absurd h (by omega)) (by simp; omega)
  simp only [Nat.mul_zero, Nat.pow_zero, Nat.mul_one, Nat.zero_add] at hr
  unfold numAt
  rw [hr, if_pos rfl, numB_len, unz_fold hn]
end NumsR
end Go.Proofs.YtnlmpejgiakepaaDoor
namespace Go.Proofs.YtnlmpejgiakepaaDoor
open Go.RowKit
namespace EvtR
open NumR (numB)
/-- A text's bytes. -/
def txtB (t : ByteArray) : ByteArray := numB t.size ++ t
end EvtR
end Go.Proofs.YtnlmpejgiakepaaDoor
namespace Go.Proofs.YtnlmpejgiakepaaDoor
open Go.RowKit
set_option linter.unusedVariables false
namespace EvtR
open NumsR NumR
theorem cut_two (s : ByteArray) (a b c : Nat) (h1 : a ≤ b) (h2 : b ≤ c) : s.extract a c = s.extract a b ++ s.extract b c := by
  apply ByteArray.ext
  simp only [ByteArray.data_extract, ByteArray.data_append]
  rw [Array.extract_append_extract, Nat.min_eq_left h1, Nat.max_eq_right h2]
theorem cut_size (s : ByteArray) (a b : Nat) (h : b ≤ s.size) : (s.extract a b).size = b - a := by rw [ByteArray.size_extract]; omega
/-- What two texts one behind the other are. -/
theorem cut_split {s x y : ByteArray} {p : Nat} (hs : p + (x.size + y.size) ≤ s.size) (h : s.extract p (p + (x.size + y.size)) = x ++ y) : s.extract p (p + x.size) = x ∧ s.extract (p + x.size) (p + x.size + y.size) = y := by
  rw [cut_two s p (p + x.size) (p + (x.size + y.size)) (by omega) (by omega)] at h
  have e := congrArg ByteArray.data h
  simp only [ByteArray.data_append] at e
  have hl : (s.extract p (p + x.size)).data.size = x.data.size := by
    have := cut_size s p (p + x.size) (by omega)
    have e1 : (s.extract p (p + x.size)).data.size = (s.extract p (p + x.size)).size := rfl
    have e2 : x.data.size = x.size := rfl
    omega
  obtain ⟨e1, e2⟩ := Array.append_inj e hl
  refine ⟨ByteArray.ext e1, ?_⟩
  rw [Nat.add_assoc]
  exact ByteArray.ext e2
/-- What is read as a text: it, and the place behind it. -/
def txtAt (s : ByteArray) (p : Nat) : Option (ByteArray × Nat) := (numAt s p).bind fun x => if 0 ≤ x.1 ∧ x.1 ≤ 8000 ∧ x.2 + x.1.toNat ≤ s.size then some (s.extract x.2 (x.2 + x.1.toNat), x.2 + x.1.toNat) else none
theorem txtAt_back {s : ByteArray} {p : Nat} {t : ByteArray} {q : Nat} (h : txtAt s p = some (t, q)) : t.size ≤ 8000 ∧ p < q ∧ q ≤ s.size ∧ s.extract p q = txtB t := by
  unfold txtAt at h
  cases hn : numAt s p with
  | none => rw [hn] at h; simp at h
  | some x =>
    obtain ⟨n, r⟩ := x
    rw [hn] at h
    simp only [Option.bind_some] at h
    split at h
    · rename_i hc
      obtain ⟨c1, c2, c3⟩ := hc
      simp only [Option.some.injEq, Prod.mk.injEq] at h
      obtain ⟨rfl, rfl⟩ := h
      obtain ⟨_, b1, b2, b3⟩ := numAt_back hn
      have hz : (s.extract r (r + n.toNat)).size = n.toNat := by rw [cut_size s _ _ c3]; omega
      refine ⟨by omega, by omega, c3, ?_⟩
      unfold txtB
      rw [hz, cut_two s p r (r + n.toNat) (by omega) (by omega), b3, show ((n.toNat : Nat) : Int) = n by omega]
    · simp at h
theorem txtAt_put {s : ByteArray} {p : Nat} {t : ByteArray} (ht : t.size ≤ 8000) (hs : p + (txtB t).size ≤ s.size) (h : s.extract p (p + (txtB t).size) = txtB t) : txtAt s p = some (t, p + (txtB t).size) := by
  unfold txtB at hs h ⊢
  rw [ByteArray.size_append] at hs h ⊢
  obtain ⟨h1, h2⟩ := cut_split hs h
  unfold txtAt
  rw [numAt_put ⟨by omega, by omega⟩ (by omega) h1]
  simp only [Option.bind_some]
  rw [if_pos ⟨by omega, by omega, by rw [Int.toNat_natCast]; omega⟩, Int.toNat_natCast, h2]
  congr 2
  omega
end EvtR
end Go.Proofs.YtnlmpejgiakepaaDoor
namespace Go.Proofs.YtnlmpejgiakepaaDoor
open Go.ChangeShapes Go.WideShapes Go.ChangeAt Go.RowKit
set_option linter.unusedVariables false
theorem hid_intro {p : Prop} (h : p) : Hid p := h
namespace JoinR
open Go.Lib (byteCells byteCells_length byteCells_append byteCells_one)
def jl (parts : List ByteArray) (k : Nat) : List UInt8 := (parts.take k).flatMap (fun p => p.data.toList)
def joinB (parts : List ByteArray) : ByteArray := ⟨(parts.flatMap (fun p => p.data.toList)).toArray⟩
theorem jl_zero (parts : List ByteArray) : jl parts 0 = [] := rfl
theorem jl_succ (parts : List ByteArray) (k : Nat) (h : k < parts.length) : jl parts (k + 1) = jl parts k ++ (parts[k]).data.toList := by
  unfold jl; rw [List.take_succ_eq_append_getElem h, List.flatMap_append]; simp only [List.flatMap_cons, List.flatMap_nil, List.append_nil]
theorem jl_all (parts : List ByteArray) : jl parts parts.length = parts.flatMap (fun p => p.data.toList) := by
  unfold jl; rw [List.take_of_length_le (Nat.le_refl _)]
theorem jl_le (parts : List ByteArray) (k : Nat) : (jl parts k).length ≤ (jl parts parts.length).length := by
  rw [jl_all]; unfold jl
  conv => rhs; rw [← List.take_append_drop k parts, List.flatMap_append, List.length_append]
  omega
theorem jl_len (parts : List ByteArray) (k : Nat) (h : k < parts.length) : (jl parts (k + 1)).length = (jl parts k).length + (parts[k]).size := by
  rw [jl_succ parts k h, List.length_append]; rfl

/-- 'copy(dst, s)', s a text: the run, and what it leaves of the row. -/
theorem copy_text_run {P : Program} {w : World} (dT sT ty : TypeId) (elem : TypeId) (hu : P.underlying dT = some (.slice elem)) (hsz : (P.info? elem).map (·.size) = some 1)
    (dp : Option Addr) (dLen dCap : Nat) (str : ByteArray)
    (g off : Nat) (cur : List Value) (t : TypeId) (hg : w.heap[g]? = some (.cells cur.toArray t (0, 0))) (hle : str.size ≤ dLen)
    (hpos : 0 < str.size → dp = some ⟨g, off, none⟩) (hfit : off + str.size ≤ cur.length) (B : Nat) (w0 : World) (hb : Below B w0 w) (hBg : B ≤ g) :
    ∃ w', (Builtin.copy_ #[dT, sT] ty #[.slice dp dLen dCap, .string str]).run P w = .ok (.int .i64 str.size) w' ∧ Hid (w'.heap[g]? = some (.cells (splice cur off (byteCells str.data.toList)).toArray t (0, 0))) ∧ Below B w0 w' := by
  have hlen : (byteCells str.data.toList).length = str.size := by rw [byteCells_length]; rfl
  by_cases h0 : str.size = 0
  · have hrun := Go.Lib.run_copy_empty_string (P := P) w dT sT ty elem dp dLen dCap str hu (by cases hq : P.info? elem <;> simp [hq] at hsz ⊢) h0
    have hnil : byteCells str.data.toList = [] := List.eq_nil_of_length_eq_zero (by omega)
    refine ⟨w, by rw [hrun, h0]; rfl, show _ = _ from ?_, hb⟩
    rw [hnil]
    simpa [splice] using hg
  · have hd' := hpos (by omega)
    subst hd'
    have hrun := Go.Lib.run_copy_row_string (P := P) w dT sT ty elem g off dLen dCap str cur.toArray t hu hsz hg hle (by simpa using hfit)
    refine ⟨_, hrun, show _ = _ from ?_, below_setRow hb hBg _⟩
    have := setRow_heap w g cur.toArray (List.take off cur ++ byteCells str.data.toList ++ List.drop (off + str.size) cur).toArray t (0, 0) hg
    simpa [splice, hlen] using this

theorem splice_next (pre cs rest : List Value) (h : cs.length ≤ rest.length) : splice (pre ++ rest) pre.length cs = (pre ++ cs) ++ rest.drop cs.length := by
  unfold splice
  simp [List.drop_append]

theorem row_of_full {w : World} {base e g n : Nat} {xs : List Value} (h : w.ownsRow base e 1 (.slice (some ⟨g, 0, none⟩) n n) n xs) :
    ∃ rest : List Value, w.heap[g]? = some (.cells rest.toArray e (0, 0)) ∧ rest.length = n := by
  rcases h.2 with ⟨h1, _⟩ | ⟨g', cap, cur, h1, _, hg, _, _, hs, _⟩
  · simp at h1
  · simp at h1
    obtain ⟨rfl, rfl⟩ := h1
    exact ⟨cur.toList, by simpa using hg, by simpa using hs⟩

theorem Trydinfo5 : (Tryd.prog.info? 5).map (fun i => (i.zero, i.size, i.bytes)) = some (some (.int .u8 0), 1, 1) := by kernel_rfl
theorem Trydsize5 : (Tryd.prog.info? 5).map (·.size) = some 1 := by kernel_rfl

set_option maxHeartbeats 2000000 in
theorem join_len (parts : List ByteArray) (b cap : Nat) (w : World) (hcap : parts.length ≤ cap) (hcm : parts.length ≤ 1000) (hb : b < w.heap.size)
    (hc : ∀ k (h : k < parts.length), w.cell? ⟨b, k, none⟩ = some (.string parts[k])) (htot : (jl parts parts.length).length ≤ 1099511627776) :
    Calls Tryd.prog 113 #[.slice (some ⟨b, 0, none⟩) parts.length cap] w fun e w' => e = .returned (.string (joinB parts)) ∧ Below w.heap.size w w' := by
  obtain ⟨i0, hi, hz0, hz1, hz2⟩ := info_parts Trydinfo5
  go_enter Tryd.func113, Tryd.ntmps113
  go_wp2
  go_loop [3, 12] (fun x i => ∃ k : Nat, k ≤ parts.length ∧ i = .int .i64 k ∧ x = .int .i64 ((jl parts k).length : Nat)) (fun _ i => parts.length - (intOf i).toNat)
  case atStart => exact ⟨0, by omega, rfl, rfl⟩
  case round =>
    obtain ⟨k, hk, rfl, rfl⟩ := hrel
    by_cases hlt : k < parts.length
    · have hcell := hc k hlt
      have h1 := jl_le parts (k + 1)
      have h2 := jl_len parts k hlt
      have HL : Hid ((jl parts (k + 1)).length = (jl parts k).length + (parts[k]).size) := h2
      have hbd : (jl parts k).length + (parts[k]).size ≤ 1099511627776 := by omega
      clear h1 h2
      go_wp2
      go_round
      case rel => exact ⟨k + 1, by omega, by go_num, by rw [HL.out]; go_num⟩
      case measure => simp [intOf]; omega
    · have : k = parts.length := by omega
      subst this
      obtain ⟨n, hn⟩ : ∃ n, n = (jl parts parts.length).length := ⟨_, rfl⟩
      rw [← hn] at htot ⊢
      have HN : Hid (n = (jl parts parts.length).length) := hn
      clear hn
      go_wp2_with (at_make; refine wpList_make_full _ rfl _ _ 118 rfl w.heap.size 5 i0 (.int .u8 0) 1 Tryd.underlying118 hi hz0 hz1 .i64 .i64 _ _ n rfl rfl rfl rfl ?b2 ?b3 ?b4 ?_)
      case b2 => omega
      case b3 => unfold maxLen; omega
      intro wm hown hgrow
      obtain ⟨rest0, hrow0, hrl0⟩ := row_of_full hown
      have hbm : Below w.heap.size w wm := (Below.refl _ _).grown hgrow (Nat.le_refl _) (fun _ h => by cases h)
      have HR0 : Hid (wm.heap[w.heap.size]? = some (.cells rest0.toArray 5 (0, 0))) := hrow0
      clear hown hgrow hrow0
      obtain ⟨G, hG⟩ : ∃ G, G = w.heap.size := ⟨_, rfl⟩
      have HG : Hid (G = w.heap.size) := hG
      rw [← hG] at hbm HR0 hb ⊢
      clear hG
      go_wp2
      go_loopw [7, 25] (fun x i wr => ∃ k : Nat, k ≤ parts.length ∧ i = .int .i64 k ∧ x = .int .i64 ((jl parts k).length : Nat) ∧ Below G w wr ∧ ∃ rest : List Value, Hid (wr.heap[G]? = some (.cells (byteCells (jl parts k) ++ rest).toArray 5 (0, 0))) ∧ rest.length = n - (jl parts k).length) (fun _ i _ => parts.length - (intOf i).toNat)
      case atStart => exact ⟨0, by omega, rfl, rfl, hbm, rest0, HR0, by rw [hrl0]; rfl⟩
      case round =>
        obtain ⟨k, hk, rfl, rfl, hbr, rest, HR, hrl⟩ := hrel
        by_cases hlt : k < parts.length
        · have hcell := hc k hlt
          have hcr : wr.cell? ⟨b, k, none⟩ = some (.string parts[k]) := (hbr.cell (p := ⟨b, k, none⟩) hb).trans hcell
          have h1 := jl_le parts (k + 1)
          have h2 := jl_len parts k hlt
          rw [← HN.out] at h1
          have HL : Hid ((jl parts (k + 1)).length = (jl parts k).length + (parts[k]).size) := h2
          have HB : Hid ((jl parts k).length + (parts[k]).size ≤ n) := hid_intro (by omega)
          have HC : Hid (jl parts (k + 1) = jl parts k ++ (parts[k]).data.toList) := jl_succ parts k hlt
          clear h1 h2 hcell
          obtain ⟨L, hL⟩ : ∃ L, L = jl parts k := ⟨_, rfl⟩
          rw [← hL] at HL HB HC HR hrl ⊢
          clear hL
          obtain ⟨m, hm⟩ : ∃ m, m = L.length := ⟨_, rfl⟩
          rw [← hm] at HL HB hrl ⊢
          have HM : Hid (m = L.length) := hm
          clear hm
          obtain ⟨q, hq⟩ : ∃ q, q = parts[k] := ⟨_, rfl⟩
          rw [← hq] at HL HB HC hcr
          clear hq
          have hqn : m + q.size ≤ n := HB.out
          have hfin : ∀ w', Hid (w'.heap[G]? = some (.cells (splice (byteCells L ++ rest) m (byteCells q.data.toList)).toArray 5 (0, 0))) → Below G w w' →
              ∃ k' : Nat, k' ≤ parts.length ∧ Value.int .i64 ((k : Int) + 1) = .int .i64 k' ∧ Value.int .i64 ((m : Int) + q.size) = .int .i64 ((jl parts k').length : Nat) ∧ Below G w w' ∧ ∃ rest : List Value, Hid (w'.heap[G]? = some (.cells (byteCells (jl parts k') ++ rest).toArray 5 (0, 0))) ∧ rest.length = n - (jl parts k').length := by
            intro w' hh hbb
            refine ⟨k + 1, by omega, by go_num, by rw [HL.out]; go_num, hbb, rest.drop (byteCells q.data.toList).length, ?_, ?_⟩
            · have hlen : (byteCells L).length = m := by rw [byteCells_length]; exact HM.out.symm
              have hq2 : (byteCells q.data.toList).length = q.size := byteCells_length _
              have := splice_next (byteCells L) (byteCells q.data.toList) rest (by rw [hq2, hrl]; omega)
              rw [hlen] at this
              rw [HC.out, byteCells_append, ← this]
              exact hh
            · have hq2 : (byteCells q.data.toList).length = q.size := byteCells_length _
              rw [List.length_drop, hq2, hrl, HL.out]; omega
          have HF := hid_intro hfin
          have hcur : (byteCells L ++ rest).length = n := by rw [List.length_append, byteCells_length, ← HM.out, hrl]; omega
          clear hfin HL HC HB
          by_cases hmn : m < n
          · obtain ⟨w4, hrun, hg4, hb4⟩ := copy_text_run (P := Tryd.prog) 118 9 3 5 Tryd.underlying118 Trydsize5 (some ⟨G, m, none⟩) (n - m) (n - m) q G m (byteCells L ++ rest) 5 HR.out (by omega) (fun _ => rfl) (by omega) G w hbr (Nat.le_refl _)
            clear HR
            go_wp2
            go_roundw
            case rel => exact HF.out _ hg4 hb4
            case measure => simp [intOf]; omega
          · obtain rfl : m = n := by omega
            have hq0 : q.size = 0 := by omega
            obtain ⟨w4, hrun, hg4, hb4⟩ := copy_text_run (P := Tryd.prog) 118 9 3 5 Tryd.underlying118 Trydsize5 (some ⟨G, 0, none⟩) 0 0 q G m (byteCells L ++ rest) 5 HR.out (by omega) (fun _ => by omega) (by omega) G w hbr (Nat.le_refl _)
            rw [hq0] at hrun
            clear HR
            go_wp2
            go_roundw
            case rel => have := HF.out _ hg4 hb4; simp only [hq0] at this; simpa using this
            case measure => simp [intOf]; omega
        · have : k = parts.length := by omega
          subst this
          have hall : (jl parts parts.length).length = n := HN.out.symm
          obtain rfl : rest = [] := List.eq_nil_of_length_eq_zero (by rw [hrl, hall]; omega)
          have hback := fun dst (hd : Tryd.prog.underlying dst = some .string) => run_convert_bytes_back (P := Tryd.prog) wr 118 dst 5 ⟨G, 0, none⟩ n (jl parts parts.length) Tryd.underlying118 Tryd.underlying5 hd (Go.Lib.bytes_of_row HR.out (by simp; rw [List.take_of_length_le (by simp [byteCells])]))
          have hb9 := hback 9 Tryd.underlying9
          rw [hall] at hb9
          clear hback hall HR
          go_wp2
          go_ret
          refine ⟨ret_str ?_, HG.out ▸ hbr⟩
          unfold joinB
          rw [← jl_all]
theorem join_any (parts : List ByteArray) (b cap : Nat) (w : World) (hcap : parts.length ≤ cap) (hcm : cap ≤ 1000) (hb : b < w.heap.size)
    (hc : ∀ k (h : k < parts.length), w.cell? ⟨b, k, none⟩ = some (.string parts[k])) (htot : (jl parts parts.length).length ≤ 1099511627776) :
    Calls Tryd.prog 113 #[.slice (some ⟨b, 0, none⟩) parts.length cap] w fun e w' => e = .returned (.string (joinB parts)) ∧ Below w.heap.size w w' :=
  join_len parts b cap w hcap (by omega) hb hc htot
theorem cell_new {w : World} {C : Array Value} {T : TypeId} {k : Nat} {v : Value} (h : C[k]? = some v) : (w.alloc (.cells C T)).cell? ⟨w.heap.size, k, none⟩ = some v := by
  rw [World.cell?_alloc_mark]; exact h
theorem join1 (a : ByteArray) (w : World) (ht : a.size ≤ 1099511627776) :
    Calls Tryd.prog 113 #[.slice (some ⟨w.heap.size, 0, none⟩) 1 1] (w.alloc (.cells #[.string a] 9)) fun e w' => e = .returned (.string a) ∧ Below w.heap.size w w' := by
  refine (join_any [a] w.heap.size 1 _ (Nat.le_refl _) (by omega) (by simp) (fun k h => cell_new (by match k, h with | 0, _ => rfl)) (by simp [jl]; exact ht)).mono ?_
  rintro e w' ⟨rfl, hb⟩
  refine ⟨ret_str (by unfold joinB; simp), ((Below.refl _ _).alloc (Nat.le_refl _) _).trans (hb.mono (by simp))⟩
theorem join2 (a b : ByteArray) (w : World) (ht : a.size + b.size ≤ 1099511627776) :
    Calls Tryd.prog 113 #[.slice (some ⟨w.heap.size, 0, none⟩) 2 2] (w.alloc (.cells #[.string a, .string b] 9)) fun e w' => e = .returned (.string (a ++ b)) ∧ Below w.heap.size w w' := by
  refine (join_any [a, b] w.heap.size 2 _ (Nat.le_refl _) (by omega) (by simp) (fun k h => cell_new (by match k, h with | 0, _ => rfl | 1, _ => rfl)) (by simp [jl]; exact ht)).mono ?_
  rintro e w' ⟨rfl, hb⟩
  refine ⟨ret_str (ByteArray.ext (by unfold joinB; simp)), ((Below.refl _ _).alloc (Nat.le_refl _) _).trans (hb.mono (by simp))⟩
end JoinR
end Go.Proofs.YtnlmpejgiakepaaDoor
namespace Go.Proofs.YtnlmpejgiakepaaDoor
open Go.ChangeShapes Go.WideShapes Go.ChangeAt Go.RowKit
set_option linter.unusedVariables false
namespace GetR
theorem read_got {s : ByteArray} {p : Nat} (hs : s.size ≤ 8000) (hm : (p : Int) ≤ 9223372036854775807) {u n : Nat} (h : rd s p 10 0 0 = (0, u, n)) (w : World) :
    Calls Tryd.prog 95 #[.string s, .int .i64 p] w fun e w' => e = .returned (.tuple #[.int .i64 (unz u), .int .i64 ((p : Int) + n), .nilIface]) ∧ Below w.heap.size w w' := by
  refine (read_any s p w hs hm).mono fun e w' ht => ?_
  rw [h] at ht
  exact ⟨ht.1 rfl, ht.2.2⟩
theorem read_bad {s : ByteArray} {p : Nat} (hs : s.size ≤ 8000) (hm : (p : Int) ≤ 9223372036854775807) {c : Nat} (hc : c ≠ 0) (h : rd s p 10 0 0 = (c, 0, 0)) (w : World) :
    Calls Tryd.prog 95 #[.string s, .int .i64 p] w fun e w' => e = .returned (.tuple #[.int .i64 0, .int .i64 0, .iface 127 (.agg #[.int .i64 c])]) ∧ Below w.heap.size w w' := by
  refine (read_any s p w hs hm).mono fun e w' ht => ?_
  rw [h] at ht
  exact ⟨ht.2.1 hc, ht.2.2⟩
/-- Either a number was got, or a code alone. -/
theorem rd_two (s : ByteArray) (p : Nat) : ∀ f i u, (∃ v n, rd s p f i u = (0, v, n)) ∨ ∃ c, c ≠ 0 ∧ rd s p f i u = (c, 0, 0)
  | 0, i, u => .inr ⟨3, by omega, rfl⟩
  | f + 1, i, u => by
    rw [rd]
    split
    · split
      · exact .inr ⟨3, by omega, rfl⟩
      · split
        · split
          · exact .inr ⟨3, by omega, rfl⟩
          · exact .inl ⟨_, _, rfl⟩
        · exact rd_two s p f _ _
    · exact .inr ⟨4, by omega, rfl⟩
theorem specT_bad (s : ByteArray) (x a b c : Int) (w : World) (hc : (c == 0) = false)
    (hs : ∀ w, Calls Tryd.prog 67 #[.string s, .int .i64 x] w fun e w' => e = .returned (.agg #[.int .i64 a, .int .i64 b, .int .i64 c]) ∧ Below w.heap.size w w') :
    Calls Tryd.prog 66 #[.string s, .int .i64 x] w fun e w' => e = .returned (.agg #[.string ⟨#[]⟩, .int .i64 0, .int .i64 c]) ∧ Below w.heap.size w w' := by
  have hcn : (c != 0) = true := by rw [bne, hc]; rfl
  go_enter Tryd.func66, Tryd.ntmps66
  go_wp2_with (go_at_call 67; refine (hs _).mono ?_; rintro e w1 ⟨rfl, hb1⟩; obtain ⟨hc1, hf1⟩ := bcell hb1; have hz1 : w.heap.size < w1.heap.size := by (have hz := hb1.size; simp at hz; omega))
  refine bodyPost_ret (v := .agg #[.string ⟨#[]⟩, .int .i64 0, .int .i64 c]) (by simp [results, Tryd.results66, go_sem, hc1, hz1]) rfl ⟨rfl, ?_⟩
  exact ((((bel_alloc hb1).setCell (by simp) _).setCell (by simp) _).setCell (by simp) _).alloc (by simp; omega) _
theorem specT_form (s : ByteArray) (x a b : Int) (w : World) (ha : a < 0 ∨ 8000 < a)
    (hs : ∀ w, Calls Tryd.prog 67 #[.string s, .int .i64 x] w fun e w' => e = .returned (.agg #[.int .i64 a, .int .i64 b, .int .i64 0]) ∧ Below w.heap.size w w') :
    Calls Tryd.prog 66 #[.string s, .int .i64 x] w fun e w' => e = .returned (.agg #[.string ⟨#[]⟩, .int .i64 0, .int .i64 3]) ∧ Below w.heap.size w w' := by
  have ha' : (a < 0) ∨ (¬ a < 0 ∧ 8000 < a) := by omega
  clear ha
  rcases ha' with h1 | ⟨h1, h2⟩
  all_goals
    go_enter Tryd.func66, Tryd.ntmps66
    go_wp2_with (go_at_call 67; refine (hs _).mono ?_; rintro e w1 ⟨rfl, hb1⟩; obtain ⟨hc1, hf1⟩ := bcell hb1; have hz1 : w.heap.size < w1.heap.size := by (have hz := hb1.size; simp at hz; omega))
    refine bodyPost_ret (v := .agg #[.string ⟨#[]⟩, .int .i64 0, .int .i64 3]) (by simp [results, Tryd.results66, go_sem, hc1, hz1]) rfl ⟨rfl, ?_⟩
    exact ((((bel_alloc hb1).setCell (by simp) _).setCell (by simp) _).setCell (by simp) _).alloc (by simp; omega) _
theorem specT_short (s : ByteArray) (x : Int) (m q : Nat) (w : World) (hm : m ≤ 8000) (hq : q ≤ s.size) (hs8 : s.size ≤ 8000) (hsh : s.size < q + m)
    (hs : ∀ w, Calls Tryd.prog 67 #[.string s, .int .i64 x] w fun e w' => e = .returned (.agg #[.int .i64 m, .int .i64 q, .int .i64 0]) ∧ Below w.heap.size w w') :
    Calls Tryd.prog 66 #[.string s, .int .i64 x] w fun e w' => e = .returned (.agg #[.string ⟨#[]⟩, .int .i64 0, .int .i64 4]) ∧ Below w.heap.size w w' := by
  have h1 : (s.size : Int) - m < q := by omega
  go_enter Tryd.func66, Tryd.ntmps66
  go_wp2_with (go_at_call 67; refine (hs _).mono ?_; rintro e w1 ⟨rfl, hb1⟩; obtain ⟨hc1, hf1⟩ := bcell hb1; have hz1 : w.heap.size < w1.heap.size := by (have hz := hb1.size; simp at hz; omega))
  refine bodyPost_ret (v := .agg #[.string ⟨#[]⟩, .int .i64 0, .int .i64 4]) (by simp [results, Tryd.results66, go_sem, hc1, hz1]) rfl ⟨rfl, ?_⟩
  exact ((((bel_alloc hb1).setCell (by simp) _).setCell (by simp) _).setCell (by simp) _).alloc (by simp; omega) _
set_option maxHeartbeats 2000000 in
theorem specT_got (s : ByteArray) (x : Int) (m q : Nat) (w : World) (hm : m ≤ 8000) (hs8 : s.size ≤ 8000) (hin : q + m ≤ s.size)
    (hs : ∀ w, Calls Tryd.prog 67 #[.string s, .int .i64 x] w fun e w' => e = .returned (.agg #[.int .i64 m, .int .i64 q, .int .i64 0]) ∧ Below w.heap.size w w') :
    Calls Tryd.prog 66 #[.string s, .int .i64 x] w fun e w' => e = .returned (.agg #[.string (s.extract q (q + m)), .int .i64 ((q : Int) + m), .int .i64 0]) ∧ Below w.heap.size w w' := by
  have h1 : ¬ (s.size : Int) - m < q := by omega
  have hwr : IntKind.i64.wrap ((q : Int) + m) = (q : Int) + m := by rw [IntKind.wrap_i64]; omega
  have hsl : ∀ wx, (Instr.slice 9 (.string s) (some (.int .i64 (q : Int))) (some (.int .i64 ((q : Int) + m))) none).run Tryd.prog wx = .ok (.string (s.extract q (q + m))) wx := by
    intro wx
    have := run_slice_string (P := Tryd.prog) (w := wx) 9 s .i64 .i64 (q : Int) ((q : Int) + m) Tryd.underlying9 (by omega) (by omega) (by omega)
    rw [this]
    congr 3
  go_enter Tryd.func66, Tryd.ntmps66
  go_wp2_with (go_at_call 67; refine (hs _).mono ?_; rintro e w1 ⟨rfl, hb1⟩; obtain ⟨hc1, hf1⟩ := bcell hb1; have hz1 : w.heap.size < w1.heap.size := by (have hz := hb1.size; simp at hz; omega))
  go_region
  go_wp2
  refine bodyPost_ret (v := .agg #[.string (s.extract q (q + m)), .int .i64 ((q : Int) + m), .int .i64 0]) (by simp [results, Tryd.results66, go_sem, hc1, hz1]) rfl ⟨rfl, ?_⟩
  exact (((((bel_alloc hb1).setCell (by simp) _).setCell (by simp) _).setCell (by simp) _).alloc (by simp; omega) _).drew
/-- The program's reading of a text. -/
theorem readT_bad (s : ByteArray) (x c : Int) (w : World)
    (hr : ∀ w, Calls Tryd.prog 95 #[.string s, .int .i64 x] w fun e w' => e = .returned (.tuple #[.int .i64 0, .int .i64 0, .iface 127 (.agg #[.int .i64 c])]) ∧ Below w.heap.size w w') :
    Calls Tryd.prog 94 #[.string s, .int .i64 x] w fun e w' => e = .returned (.tuple #[.string ⟨#[]⟩, .int .i64 0, .iface 127 (.agg #[.int .i64 c])]) ∧ Below w.heap.size w w' := by
  go_enter Tryd.func94, Tryd.ntmps94
  go_wp2_with (go_at_call 95; refine (hr _).mono ?_; rintro e w1 ⟨rfl, hb1⟩)
  go_ret3
  exact ⟨rfl, hb1⟩
theorem readT_form (s : ByteArray) (x a b : Int) (w : World) (ha : a < 0 ∨ 8000 < a)
    (hr : ∀ w, Calls Tryd.prog 95 #[.string s, .int .i64 x] w fun e w' => e = .returned (.tuple #[.int .i64 a, .int .i64 b, .nilIface]) ∧ Below w.heap.size w w') :
    Calls Tryd.prog 94 #[.string s, .int .i64 x] w fun e w' => e = .returned (.tuple #[.string ⟨#[]⟩, .int .i64 0, .iface 127 (.agg #[.int .i64 3])]) ∧ Below w.heap.size w w' := by
  have ha' : (a < 0) ∨ (¬ a < 0 ∧ 8000 < a) := by omega
  clear ha
  rcases ha' with h1 | ⟨h1, h2⟩
  all_goals
    go_enter Tryd.func94, Tryd.ntmps94
    go_wp2_with (go_at_call 95; refine (hr _).mono ?_; rintro e w1 ⟨rfl, hb1⟩)
    go_ret3
    exact ⟨rfl, hb1⟩
theorem readT_short (s : ByteArray) (x : Int) (m q : Nat) (w : World) (hm : m ≤ 8000) (hq : q ≤ s.size) (hs8 : s.size ≤ 8000) (hsh : s.size < q + m)
    (hr : ∀ w, Calls Tryd.prog 95 #[.string s, .int .i64 x] w fun e w' => e = .returned (.tuple #[.int .i64 m, .int .i64 q, .nilIface]) ∧ Below w.heap.size w w') :
    Calls Tryd.prog 94 #[.string s, .int .i64 x] w fun e w' => e = .returned (.tuple #[.string ⟨#[]⟩, .int .i64 0, .iface 127 (.agg #[.int .i64 4])]) ∧ Below w.heap.size w w' := by
  have h1 : (s.size : Int) - q < m := by omega
  go_enter Tryd.func94, Tryd.ntmps94
  go_wp2_with (go_at_call 95; refine (hr _).mono ?_; rintro e w1 ⟨rfl, hb1⟩)
  go_ret3
  exact ⟨rfl, hb1⟩
theorem readT_got (s : ByteArray) (x : Int) (m q : Nat) (w : World) (hm : m ≤ 8000) (hs8 : s.size ≤ 8000) (hin : q + m ≤ s.size)
    (hr : ∀ w, Calls Tryd.prog 95 #[.string s, .int .i64 x] w fun e w' => e = .returned (.tuple #[.int .i64 m, .int .i64 q, .nilIface]) ∧ Below w.heap.size w w') :
    Calls Tryd.prog 94 #[.string s, .int .i64 x] w fun e w' => e = .returned (.tuple #[.string (s.extract q (q + m)), .int .i64 ((q : Int) + m), .nilIface]) ∧ Below w.heap.size w w' := by
  have h1 : ¬ (s.size : Int) - q < m := by omega
  have hsl : ∀ wx, (Instr.slice 9 (.string s) (some (.int .i64 (q : Int))) (some (.int .i64 ((q : Int) + m))) none).run Tryd.prog wx = .ok (.string (s.extract q (q + m))) wx := by
    intro wx
    have := run_slice_string (P := Tryd.prog) (w := wx) 9 s .i64 .i64 (q : Int) ((q : Int) + m) Tryd.underlying9 (by omega) (by omega) (by omega)
    rw [this]
    congr 3
  go_enter Tryd.func94, Tryd.ntmps94
  go_wp2_with (first | (go_at_call 95; refine (hr _).mono ?_; rintro e w1 ⟨rfl, hb1⟩) | (go_at_call 113; refine (JoinR.join1 _ _ (by simp; omega)).mono ?_; rintro e w2 ⟨rfl, hb2⟩))
  go_ret3
  exact ⟨rfl, hb1.trans (hb2.mono hb1.size)⟩
end GetR
namespace EvtR
open GetR NumsR
/-- A fault of the program's. -/
def flt (c : Int) : Value := .iface 127 (.agg #[.int .i64 c])
theorem num_impl (s : ByteArray) (p : Nat) (hs : s.size ≤ 8000) (hp : p ≤ 8000) : (∃ n q, numAt s p = some (n, q) ∧ I64 n ∧ q ≤ 8000 ∧ ∀ w, Calls Tryd.prog 95 #[.string s, .int .i64 p] w fun e w' => e = .returned (.tuple #[.int .i64 n, .int .i64 (q : Nat), .nilIface]) ∧ Below w.heap.size w w') ∨ (numAt s p = none ∧ ∃ c : Int, ∀ w, Calls Tryd.prog 95 #[.string s, .int .i64 p] w fun e w' => e = .returned (.tuple #[.int .i64 0, .int .i64 0, flt c]) ∧ Below w.heap.size w w') := by
  rcases rd_two s p 10 0 0 with ⟨u, n, h⟩ | ⟨c, hc, h⟩
  · have e : numAt s p = some (unz u, p + n) := by unfold numAt; rw [h]; rfl
    obtain ⟨b1, b2, b3, b4⟩ := numAt_back e
    refine .inl ⟨_, _, e, b1, by omega, fun w => ?_⟩
    have := read_got hs (show (p : Int) ≤ 9223372036854775807 by omega) h w
    rw [show ((p : Int) + (n : Int)) = ((p + n : Nat) : Int) by omega] at this
    exact this
  · exact .inr ⟨by unfold numAt; rw [h, if_neg hc], c, fun w => read_bad hs (by omega) hc h w⟩
theorem num_spec (s : ByteArray) (p : Nat) (hs : s.size ≤ 8000) (hp : p ≤ 8000) : (∃ n q, numAt s p = some (n, q) ∧ I64 n ∧ q ≤ 8000 ∧ ∀ w, Calls Tryd.prog 67 #[.string s, .int .i64 p] w fun e w' => e = .returned (.agg #[.int .i64 n, .int .i64 (q : Nat), .int .i64 0]) ∧ Below w.heap.size w w') ∨ (numAt s p = none ∧ ∃ c : Int, (c == 0) = false ∧ ∀ w, Calls Tryd.prog 67 #[.string s, .int .i64 p] w fun e w' => e = .returned (.agg #[.int .i64 0, .int .i64 0, .int .i64 c]) ∧ Below w.heap.size w w') := by
  rcases rd_two s p 10 0 0 with ⟨u, n, h⟩ | ⟨c, hc, h⟩
  · have e : numAt s p = some (unz u, p + n) := by unfold numAt; rw [h]; rfl
    obtain ⟨b1, b2, b3, b4⟩ := numAt_back e
    refine .inl ⟨_, _, e, b1, by omega, fun w => ?_⟩
    have := GetR.spec_any s p w hs (by omega)
    rw [outN_got h, show ((p : Int) + (n : Int)) = ((p + n : Nat) : Int) by omega] at this
    exact this
  · refine .inr ⟨by unfold numAt; rw [h, if_neg hc], c, by simp; omega, fun w => ?_⟩
    have := GetR.spec_any s p w hs (by omega)
    rw [outN_bad h hc] at this
    exact this
theorem txt_impl (s : ByteArray) (p : Nat) (hs : s.size ≤ 8000) (hp : p ≤ 8000) : (∃ t q, txtAt s p = some (t, q) ∧ t.size ≤ 8000 ∧ q ≤ 8000 ∧ ∀ w, Calls Tryd.prog 94 #[.string s, .int .i64 p] w fun e w' => e = .returned (.tuple #[.string t, .int .i64 (q : Nat), .nilIface]) ∧ Below w.heap.size w w') ∨ (txtAt s p = none ∧ ∃ c : Int, ∀ w, Calls Tryd.prog 94 #[.string s, .int .i64 p] w fun e w' => e = .returned (.tuple #[.string ⟨#[]⟩, .int .i64 0, flt c]) ∧ Below w.heap.size w w') := by
  rcases num_impl s p hs hp with ⟨n, q, h, hn, hq, hc⟩ | ⟨h, c, hc⟩
  · obtain ⟨_, _, b3, _⟩ := numAt_back h
    by_cases h1 : n < 0 ∨ 8000 < n
    · exact .inr ⟨by unfold txtAt; rw [h]; simp only [Option.bind_some]; rw [if_neg (by omega)], 3, fun w => readT_form s p n q w h1 hc⟩
    · obtain ⟨m, rfl⟩ : ∃ m : Nat, n = m := ⟨n.toNat, by omega⟩
      by_cases h2 : s.size < q + m
      · exact .inr ⟨by unfold txtAt; rw [h]; simp only [Option.bind_some]; rw [if_neg (by rw [Int.toNat_natCast]; omega)], 4, fun w => readT_short s p m q w (by omega) b3 hs h2 hc⟩
      · have e : txtAt s p = some (s.extract q (q + m), q + m) := by unfold txtAt; rw [h]; simp only [Option.bind_some]; rw [if_pos ⟨by omega, by omega, by rw [Int.toNat_natCast]; omega⟩, Int.toNat_natCast]
        refine .inl ⟨_, _, e, (txtAt_back e).1, by omega, fun w => ?_⟩
        have := readT_got s p m q w (by omega) hs (by omega) hc
        rw [show ((q : Int) + (m : Int)) = ((q + m : Nat) : Int) by omega] at this
        exact this
  · exact .inr ⟨by unfold txtAt; rw [h]; rfl, c, fun w => readT_bad s p c w hc⟩
theorem txt_spec (s : ByteArray) (p : Nat) (hs : s.size ≤ 8000) (hp : p ≤ 8000) : (∃ t q, txtAt s p = some (t, q) ∧ t.size ≤ 8000 ∧ q ≤ 8000 ∧ ∀ w, Calls Tryd.prog 66 #[.string s, .int .i64 p] w fun e w' => e = .returned (.agg #[.string t, .int .i64 (q : Nat), .int .i64 0]) ∧ Below w.heap.size w w') ∨ (txtAt s p = none ∧ ∃ c : Int, (c == 0) = false ∧ ∀ w, Calls Tryd.prog 66 #[.string s, .int .i64 p] w fun e w' => e = .returned (.agg #[.string ⟨#[]⟩, .int .i64 0, .int .i64 c]) ∧ Below w.heap.size w w') := by
  rcases num_spec s p hs hp with ⟨n, q, h, hn, hq, hc⟩ | ⟨h, c, hc0, hc⟩
  · obtain ⟨_, _, b3, _⟩ := numAt_back h
    by_cases h1 : n < 0 ∨ 8000 < n
    · exact .inr ⟨by unfold txtAt; rw [h]; simp only [Option.bind_some]; rw [if_neg (by omega)], 3, by decide, fun w => specT_form s p n q w h1 hc⟩
    · obtain ⟨m, rfl⟩ : ∃ m : Nat, n = m := ⟨n.toNat, by omega⟩
      by_cases h2 : s.size < q + m
      · exact .inr ⟨by unfold txtAt; rw [h]; simp only [Option.bind_some]; rw [if_neg (by rw [Int.toNat_natCast]; omega)], 4, by decide, fun w => specT_short s p m q w (by omega) b3 hs h2 hc⟩
      · have e : txtAt s p = some (s.extract q (q + m), q + m) := by unfold txtAt; rw [h]; simp only [Option.bind_some]; rw [if_pos ⟨by omega, by omega, by rw [Int.toNat_natCast]; omega⟩, Int.toNat_natCast]
        refine .inl ⟨_, _, e, (txtAt_back e).1, by omega, fun w => ?_⟩
        have := specT_got s p m q w (by omega) hs (by omega) hc
        rw [show ((q : Int) + (m : Int)) = ((q + m : Nat) : Int) by omega] at this
        exact this
  · exact .inr ⟨by unfold txtAt; rw [h]; rfl, c, hc0, fun w => specT_bad s p 0 0 c w hc0 hc⟩
end EvtR
end Go.Proofs.YtnlmpejgiakepaaDoor
namespace Go.Proofs.YtnlmpejgiakepaaDoor
open Go.ChangeShapes Go.WideShapes Go.ChangeAt Go.RowKit
namespace EvtR
theorem rset (w : World) (b o : Nat) (v : Value) : w.grownBy (w.setCell ⟨b, o, none⟩ v) (some b) := by
  refine ⟨rfl, rfl, rfl, by simp, fun k hk hne => ?_⟩
  simp only [World.setCell]
  rw [Array.getElem?_modify, if_neg (fun e => hne (by rw [e]))]
theorem rgrown {w w' : World} (hb : Below w.heap.size w w') (row : Option Nat) : w.grownBy w' row := ⟨hb.os, hb.tape, hb.output, hb.size, fun k hk _ => hb.block k hk⟩
theorem gtrans {w w1 w2 : World} {g : Nat} (h1 : w.grownBy w1 (some g)) (h2 : w1.grownBy w2 (some g)) : w.grownBy w2 (some g) :=
  ⟨h2.os.trans h1.os, h2.tape.trans h1.tape, h2.output.trans h1.output, Nat.le_trans h1.size h2.size, fun k hk hne => (h2.block k (by have := h1.size; omega) hne).trans (h1.block k hk hne)⟩
theorem undrew {w w1 : World} {r : Option Nat} (h : w.drew.grownBy w1 r) : w.grownBy w1 r := ⟨h.os, h.tape, h.output, h.size, h.block⟩
end EvtR
end Go.Proofs.YtnlmpejgiakepaaDoor
namespace Go.Proofs.YtnlmpejgiakepaaDoor
open Go.ChangeShapes Go.WideShapes Go.ChangeAt Go.RowKit
set_option linter.unusedVariables false
namespace EvtR
open GetR NumsR
/-- The reader's block. -/
def RdB (g : Nat) (s : ByteArray) (p : Nat) (f : Value) (w : World) : Prop := g < w.heap.size ∧ w.cell? ⟨g, 0, none⟩ = some (.string s) ∧ w.cell? ⟨g, 1, none⟩ = some (.int .i64 p) ∧ w.cell? ⟨g, 2, none⟩ = some f ∧ w.frozen? ⟨g, 0, none⟩ = false ∧ w.frozen? ⟨g, 1, none⟩ = false ∧ w.frozen? ⟨g, 2, none⟩ = false
theorem RdB.below {g : Nat} {s : ByteArray} {p : Nat} {f : Value} {w w' : World} (h : RdB g s p f w) (hb : Below w.heap.size w w') : RdB g s p f w' := by
  obtain ⟨hl, c0, c1, c2, f0, f1, f2⟩ := h
  have c := fun o => hb.cell (p := ⟨g, o, none⟩) hl
  have z := fun o => hb.frozen (p := ⟨g, o, none⟩) hl
  exact ⟨by have := hb.size; omega, (c 0).trans c0, (c 1).trans c1, (c 2).trans c2, (z 0).trans f0, (z 1).trans f1, (z 2).trans f2⟩
theorem RdB.set {g : Nat} {s : ByteArray} {p : Nat} {f : Value} {w : World} (h : RdB g s p f w) (q : Nat) (f' : Value) : RdB g s q f' ((w.setCell ⟨g, 1, none⟩ (.int .i64 q)).setCell ⟨g, 2, none⟩ f') := by
  obtain ⟨hl, c0, c1, c2, f0, f1, f2⟩ := h
  exact ⟨by simpa using hl, by simp [go_sem, c0], by simp [go_sem, c1], by simp [go_sem, c2], by simp [go_sem, f0], by simp [go_sem, f1], by simp [go_sem, f2]⟩
set_option maxHeartbeats 4000000 in
theorem num_got (g : Nat) (s : ByteArray) (p q : Nat) (n : Int) (w : World) (hR : RdB g s p .nilIface w)
    (hr : ∀ w, Calls Tryd.prog 95 #[.string s, .int .i64 p] w fun e w' => e = .returned (.tuple #[.int .i64 n, .int .i64 (q : Nat), .nilIface]) ∧ Below w.heap.size w w') :
    Calls Tryd.prog 70 #[.pointer (some ⟨g, 0, none⟩)] w fun e w' => e = .returned (.int .i64 n) ∧ RdB g s q (.nilIface) w' ∧ w.grownBy w' (some g) := by
  have HR := hid_intro hR
  have HH := hid_intro hr
  obtain ⟨hl, c0, c1, c2, f0, f1, f2⟩ := hR
  clear hr
  go_enter Tryd.func70, Tryd.ntmps70
  go_wp2_with fail
  go_region_with (go_at_call 95; refine (HH.out _).mono ?_; rintro e w1 ⟨rfl, hb⟩; have HB := hid_intro hb; have HR1 := hid_intro (RdB.below (show RdB g s p .nilIface w.drew from HR.out) hb); obtain ⟨hl1, d0, d1, d2, e0, e1, e2⟩ := HR1.out; clear hb)
  all_goals (
    go_wp2_with fail
    go_ret
    exact ⟨rfl, HR1.out.set q _, gtrans (gtrans (undrew (rgrown HB.out _)) (rset _ g 1 _)) (rset _ g 2 _)⟩)
set_option maxHeartbeats 4000000 in
theorem num_bad (g : Nat) (s : ByteArray) (p q : Nat) (c : Int) (w : World) (hR : RdB g s p .nilIface w)
    (hr : ∀ w, Calls Tryd.prog 95 #[.string s, .int .i64 p] w fun e w' => e = .returned (.tuple #[.int .i64 0, .int .i64 (q : Nat), flt c]) ∧ Below w.heap.size w w') :
    Calls Tryd.prog 70 #[.pointer (some ⟨g, 0, none⟩)] w fun e w' => e = .returned (.int .i64 0) ∧ RdB g s q (flt c) w' ∧ w.grownBy w' (some g) := by
  unfold flt at *
  have HR := hid_intro hR
  have HH := hid_intro hr
  obtain ⟨hl, c0, c1, c2, f0, f1, f2⟩ := hR
  clear hr
  go_enter Tryd.func70, Tryd.ntmps70
  go_wp2_with fail
  go_region_with (go_at_call 95; refine (HH.out _).mono ?_; rintro e w1 ⟨rfl, hb⟩; have HB := hid_intro hb; have HR1 := hid_intro (RdB.below (show RdB g s p .nilIface w.drew from HR.out) hb); obtain ⟨hl1, d0, d1, d2, e0, e1, e2⟩ := HR1.out; clear hb)
  all_goals (
    go_wp2_with fail
    go_ret
    exact ⟨rfl, HR1.out.set q _, gtrans (gtrans (undrew (rgrown HB.out _)) (rset _ g 1 _)) (rset _ g 2 _)⟩)
theorem num_flt (g : Nat) (s : ByteArray) (p : Nat) (c : Int) (w : World) (hR : RdB g s p (flt c) w) :
    Calls Tryd.prog 70 #[.pointer (some ⟨g, 0, none⟩)] w fun e w' => e = .returned (.int .i64 0) ∧ w' = w := by
  unfold flt at hR
  obtain ⟨hl, c0, c1, c2, f0, f1, f2⟩ := hR
  go_enter Tryd.func70, Tryd.ntmps70
  go_wp2_with fail
  go_ret
  exact ⟨rfl, rfl⟩
set_option maxHeartbeats 4000000 in
theorem word_got (g : Nat) (s : ByteArray) (p q : Nat) (t : ByteArray) (w : World) (hR : RdB g s p .nilIface w)
    (hr : ∀ w, Calls Tryd.prog 94 #[.string s, .int .i64 p] w fun e w' => e = .returned (.tuple #[.string t, .int .i64 (q : Nat), .nilIface]) ∧ Below w.heap.size w w') :
    Calls Tryd.prog 69 #[.pointer (some ⟨g, 0, none⟩)] w fun e w' => e = .returned (.string t) ∧ RdB g s q (.nilIface) w' ∧ w.grownBy w' (some g) := by
  have HR := hid_intro hR
  have HH := hid_intro hr
  obtain ⟨hl, c0, c1, c2, f0, f1, f2⟩ := hR
  clear hr
  go_enter Tryd.func69, Tryd.ntmps69
  go_wp2_with fail
  go_region_with (go_at_call 94; refine (HH.out _).mono ?_; rintro e w1 ⟨rfl, hb⟩; have HB := hid_intro hb; have HR1 := hid_intro (RdB.below (show RdB g s p .nilIface w.drew from HR.out) hb); obtain ⟨hl1, d0, d1, d2, e0, e1, e2⟩ := HR1.out; clear hb)
  all_goals (
    go_wp2_with fail
    go_ret
    exact ⟨rfl, HR1.out.set q _, gtrans (gtrans (undrew (rgrown HB.out _)) (rset _ g 1 _)) (rset _ g 2 _)⟩)
set_option maxHeartbeats 4000000 in
theorem word_bad (g : Nat) (s : ByteArray) (p q : Nat) (c : Int) (w : World) (hR : RdB g s p .nilIface w)
    (hr : ∀ w, Calls Tryd.prog 94 #[.string s, .int .i64 p] w fun e w' => e = .returned (.tuple #[.string ⟨#[]⟩, .int .i64 (q : Nat), flt c]) ∧ Below w.heap.size w w') :
    Calls Tryd.prog 69 #[.pointer (some ⟨g, 0, none⟩)] w fun e w' => e = .returned (.string ⟨#[]⟩) ∧ RdB g s q (flt c) w' ∧ w.grownBy w' (some g) := by
  unfold flt at *
  have HR := hid_intro hR
  have HH := hid_intro hr
  obtain ⟨hl, c0, c1, c2, f0, f1, f2⟩ := hR
  clear hr
  go_enter Tryd.func69, Tryd.ntmps69
  go_wp2_with fail
  go_region_with (go_at_call 94; refine (HH.out _).mono ?_; rintro e w1 ⟨rfl, hb⟩; have HB := hid_intro hb; have HR1 := hid_intro (RdB.below (show RdB g s p .nilIface w.drew from HR.out) hb); obtain ⟨hl1, d0, d1, d2, e0, e1, e2⟩ := HR1.out; clear hb)
  all_goals (
    go_wp2_with fail
    go_ret
    exact ⟨rfl, HR1.out.set q _, gtrans (gtrans (undrew (rgrown HB.out _)) (rset _ g 1 _)) (rset _ g 2 _)⟩)
theorem word_flt (g : Nat) (s : ByteArray) (p : Nat) (c : Int) (w : World) (hR : RdB g s p (flt c) w) :
    Calls Tryd.prog 69 #[.pointer (some ⟨g, 0, none⟩)] w fun e w' => e = .returned (.string ⟨#[]⟩) ∧ w' = w := by
  unfold flt at hR
  obtain ⟨hl, c0, c1, c2, f0, f1, f2⟩ := hR
  go_enter Tryd.func69, Tryd.ntmps69
  go_wp2_with fail
  go_ret
  exact ⟨rfl, rfl⟩
/-- What a read leaves: the reader behind it, with or without a fault. -/
def After (g : Nat) (s : ByteArray) (o : Option Nat) (w : World) : Prop := match o with
  | some p => p ≤ 8000 ∧ RdB g s p .nilIface w
  | none => ∃ p c, RdB g s p (flt c) w
/-- A number read by the reader. -/
theorem rnum (g : Nat) (s : ByteArray) (o : Option Nat) (w : World) (hs : s.size ≤ 8000) (h : After g s o w) :
    Calls Tryd.prog 70 #[.pointer (some ⟨g, 0, none⟩)] w fun e w' => e = .returned (.int .i64 (((o.bind (numAt s)).map (·.1)).getD 0)) ∧ After g s ((o.bind (numAt s)).map (·.2)) w' ∧ w.grownBy w' (some g) := by
  cases o with
  | none =>
    obtain ⟨p, c, h⟩ := h
    exact (num_flt g s p c w h).mono fun e w' ⟨h1, h2⟩ => by subst h2; exact ⟨h1, ⟨p, c, h⟩, ⟨rfl, rfl, rfl, Nat.le_refl _, fun _ _ _ => rfl⟩⟩
  | some p =>
    rcases num_impl s p hs h.1 with ⟨n, q, hn, _, hq, hc⟩ | ⟨hn, c, hc⟩
    · refine (num_got g s p q n w h.2 hc).mono fun e w' ⟨h1, h2, h3⟩ => ?_
      simp only [Option.bind_some, hn]
      exact ⟨h1, ⟨hq, h2⟩, h3⟩
    · refine (num_bad g s p 0 c w h.2 hc).mono fun e w' ⟨h1, h2, h3⟩ => ?_
      simp only [Option.bind_some, hn]
      exact ⟨h1, ⟨0, c, h2⟩, h3⟩
/-- A text read by the reader. -/
theorem rword (g : Nat) (s : ByteArray) (o : Option Nat) (w : World) (hs : s.size ≤ 8000) (h : After g s o w) :
    Calls Tryd.prog 69 #[.pointer (some ⟨g, 0, none⟩)] w fun e w' => e = .returned (.string (((o.bind (txtAt s)).map (·.1)).getD ⟨#[]⟩)) ∧ After g s ((o.bind (txtAt s)).map (·.2)) w' ∧ w.grownBy w' (some g) := by
  cases o with
  | none =>
    obtain ⟨p, c, h⟩ := h
    exact (word_flt g s p c w h).mono fun e w' ⟨h1, h2⟩ => by subst h2; exact ⟨h1, ⟨p, c, h⟩, ⟨rfl, rfl, rfl, Nat.le_refl _, fun _ _ _ => rfl⟩⟩
  | some p =>
    rcases txt_impl s p hs h.1 with ⟨n, q, hn, _, hq, hc⟩ | ⟨hn, c, hc⟩
    · refine (word_got g s p q n w h.2 hc).mono fun e w' ⟨h1, h2, h3⟩ => ?_
      simp only [Option.bind_some, hn]
      exact ⟨h1, ⟨hq, h2⟩, h3⟩
    · refine (word_bad g s p 0 c w h.2 hc).mono fun e w' ⟨h1, h2, h3⟩ => ?_
      simp only [Option.bind_some, hn]
      exact ⟨h1, ⟨0, c, h2⟩, h3⟩
end EvtR
end Go.Proofs.YtnlmpejgiakepaaDoor
namespace Go.Proofs.YtnlmpejgiakepaaDoor
open Go.ChangeShapes Go.WideShapes Go.ChangeAt Go.RowKit
set_option linter.unusedVariables false
namespace EvtR
open GetR NumsR
/-- The model's reader's block. -/
def SRB (g : Nat) (s : ByteArray) (p : Nat) (b : Bool) (w : World) : Prop := g < w.heap.size ∧ w.cell? ⟨g, 0, none⟩ = some (.string s) ∧ w.cell? ⟨g, 1, none⟩ = some (.int .i64 p) ∧ w.cell? ⟨g, 2, none⟩ = some (.bool b) ∧ w.frozen? ⟨g, 0, none⟩ = false ∧ w.frozen? ⟨g, 1, none⟩ = false ∧ w.frozen? ⟨g, 2, none⟩ = false
theorem SRB.below {g : Nat} {s : ByteArray} {p : Nat} {b : Bool} {w w' : World} (h : SRB g s p b w) (hb : Below w.heap.size w w') : SRB g s p b w' := by
  obtain ⟨hl, c0, c1, c2, f0, f1, f2⟩ := h
  have c := fun o => hb.cell (p := ⟨g, o, none⟩) hl
  have z := fun o => hb.frozen (p := ⟨g, o, none⟩) hl
  exact ⟨by have := hb.size; omega, (c 0).trans c0, (c 1).trans c1, (c 2).trans c2, (z 0).trans f0, (z 1).trans f1, (z 2).trans f2⟩
theorem SRB.setAt {g : Nat} {s : ByteArray} {p : Nat} {b : Bool} {w : World} (h : SRB g s p b w) (q : Nat) : SRB g s q b (w.setCell ⟨g, 1, none⟩ (.int .i64 q)) := by
  obtain ⟨hl, c0, c1, c2, f0, f1, f2⟩ := h
  exact ⟨by simpa using hl, by simp [go_sem, c0], by simp [go_sem, c1], by simp [go_sem, c2], by simp [go_sem, f0], by simp [go_sem, f1], by simp [go_sem, f2]⟩
theorem SRB.setBad {g : Nat} {s : ByteArray} {p : Nat} {b : Bool} {w : World} (h : SRB g s p b w) : SRB g s p true (w.setCell ⟨g, 2, none⟩ (.bool true)) := by
  obtain ⟨hl, c0, c1, c2, f0, f1, f2⟩ := h
  exact ⟨by simpa using hl, by simp [go_sem, c0], by simp [go_sem, c1], by simp [go_sem, c2], by simp [go_sem, f0], by simp [go_sem, f1], by simp [go_sem, f2]⟩
/-- A new block of three cells. -/
def N3 (B : Nat) (a b c : Value) (w : World) : Prop := B < w.heap.size ∧ w.cell? ⟨B, 0, none⟩ = some a ∧ w.cell? ⟨B, 1, none⟩ = some b ∧ w.cell? ⟨B, 2, none⟩ = some c ∧ w.frozen? ⟨B, 0, none⟩ = false ∧ w.frozen? ⟨B, 1, none⟩ = false ∧ w.frozen? ⟨B, 2, none⟩ = false
theorem N3.new (W : World) (T : TypeId) (a b c : Value) : N3 W.heap.size a b c (W.alloc (.cells #[a, b, c] T)) :=
  ⟨by simp, by simp [go_sem], by simp [go_sem], by simp [go_sem], by simp [go_sem], by simp [go_sem], by simp [go_sem]⟩
theorem N3.below {B : Nat} {a b c : Value} {w w' : World} (h : N3 B a b c w) (hb : Below w.heap.size w w') : N3 B a b c w' := by
  obtain ⟨hl, c0, c1, c2, f0, f1, f2⟩ := h
  have c := fun o => hb.cell (p := ⟨B, o, none⟩) hl
  have z := fun o => hb.frozen (p := ⟨B, o, none⟩) hl
  exact ⟨by have := hb.size; omega, (c 0).trans c0, (c 1).trans c1, (c 2).trans c2, (z 0).trans f0, (z 1).trans f1, (z 2).trans f2⟩
theorem then2 {a b P : Prop} (ha : a) (hb : b) (k : a → b → P) : P := k ha hb
theorem then1 {a P : Prop} (ha : a) (k : a → P) : P := k ha
theorem SRB.other {g : Nat} {s : ByteArray} {p : Nat} {b : Bool} {w : World} (h : SRB g s p b w) {X : Nat} (hX : X ≠ g) (o : Nat) (v : Value) : SRB g s p b (w.setCell ⟨X, o, none⟩ v) := by
  obtain ⟨hl, c0, c1, c2, f0, f1, f2⟩ := h
  have e := (rset w X o v).block g hl (by simp; exact fun h => hX h.symm)
  have c := fun k => World.cell?_of_block (a := ⟨g, k, none⟩) e
  have z := fun k => World.frozen?_of_block (a := ⟨g, k, none⟩) e
  exact ⟨by simpa using hl, (c 0).trans c0, (c 1).trans c1, (c 2).trans c2, (z 0).trans f0, (z 1).trans f1, (z 2).trans f2⟩
theorem gnew {w wx : World} {g X o : Nat} {v : Value} (h : w.grownBy wx (some g)) (hX : w.heap.size ≤ X) : w.grownBy (wx.setCell ⟨X, o, none⟩ v) (some g) := by
  have hg := rset wx X o v
  refine ⟨hg.os.trans h.os, hg.tape.trans h.tape, hg.output.trans h.output, by have := h.size; have := hg.size; omega, fun k hk hne => ?_⟩
  have hs := h.size
  exact (hg.block k (by omega) (by intro e; cases e; omega)).trans (h.block k hk hne)
theorem galloc {w w1 : World} {g : Nat} (h : w.grownBy w1 (some g)) (o : Obj) : w.grownBy (w1.alloc o) (some g) := gtrans h (World.grownBy_alloc w1 o _)
set_option maxHeartbeats 4000000 in
theorem snum_got (g : Nat) (s : ByteArray) (p q : Nat) (n : Int) (w : World) (hR : SRB g s p false w)
    (hr : ∀ w, Calls Tryd.prog 67 #[.string s, .int .i64 p] w fun e w' => e = .returned (.agg #[.int .i64 n, .int .i64 (q : Nat), .int .i64 0]) ∧ Below w.heap.size w w') :
    Calls Tryd.prog 35 #[.pointer (some ⟨g, 0, none⟩)] w fun e w' => e = .returned (.int .i64 n) ∧ SRB g s q false w' ∧ w.grownBy w' (some g) := by
  have HR := hid_intro hR
  have HH := hid_intro hr
  obtain ⟨hl, c0, c1, c2, f0, f1, f2⟩ := hR
  have hne : w.heap.size ≠ g := by omega
  clear hr
  go_enter Tryd.func35, Tryd.ntmps35
  go_wp2_with fail
  go_region_with (go_at_call 67; refine (HH.out _).mono ?_; rintro e w1 ⟨rfl, hb⟩; have HB := hid_intro hb; first | (refine then2 (SRB.below (SRB.below (show SRB g s p false w.drew from HR.out) ((Below.refl _ _).alloc (Nat.le_refl _) _)) hb) (show N3 w.heap.size (.int .i64 0) (.int .i64 0) (.int .i64 0) w1 from N3.below (N3.new w.drew 109 (.int .i64 0) (.int .i64 0) (.int .i64 0)) hb) ?_; intro hX hZ; have HX := hid_intro hX; obtain ⟨zl, z0, z1, z2, y0, y1, y2⟩ := hZ; obtain ⟨hl1, d0, d1, d2, e0, e1, e2⟩ := hX) | (refine then1 (SRB.below (show SRB g s p false w.drew from HR.out) hb) ?_; intro hX; have HX := hid_intro hX; have hl0 : ¬ w1.heap.size = g := (by have := hX.1; omega); obtain ⟨hl1, d0, d1, d2, e0, e1, e2⟩ := hX); clear hb)
  all_goals (
    go_wp2_with fail
    go_ret
    first
      | (have hzl := zl; exact ⟨rfl, ((((HX.out.other hne 0 _).other hne 1 _).other hne 2 _).setAt q), gtrans (gnew (gnew (gnew (undrew (gtrans (World.grownBy_alloc _ _ _) (rgrown HB.out _))) (Nat.le_refl _)) (Nat.le_refl _)) (Nat.le_refl _)) (rset _ g 1 _)⟩)
      | exact ⟨rfl, (HX.out.setAt q).below ((Below.refl _ _).alloc (Nat.le_refl _) _), galloc (gtrans (undrew (rgrown HB.out _)) (rset _ g 1 _)) _⟩)
set_option maxHeartbeats 4000000 in
theorem snum_bad (g : Nat) (s : ByteArray) (p q : Nat) (n : Int) (c : Int) (hc : (c == 0) = false) (w : World) (hR : SRB g s p false w)
    (hr : ∀ w, Calls Tryd.prog 67 #[.string s, .int .i64 p] w fun e w' => e = .returned (.agg #[.int .i64 n, .int .i64 (q : Nat), .int .i64 c]) ∧ Below w.heap.size w w') :
    Calls Tryd.prog 35 #[.pointer (some ⟨g, 0, none⟩)] w fun e w' => e = .returned (.int .i64 0) ∧ SRB g s p true w' ∧ w.grownBy w' (some g) := by
  have HR := hid_intro hR
  have HH := hid_intro hr
  obtain ⟨hl, c0, c1, c2, f0, f1, f2⟩ := hR
  have hne : w.heap.size ≠ g := by omega
  have hcn : ¬ c = 0 := by simpa using hc
  have hcn2 : (c != 0) = true := by simp [hcn]
  clear hr
  go_enter Tryd.func35, Tryd.ntmps35
  go_wp2_with fail
  go_region_with (go_at_call 67; refine (HH.out _).mono ?_; rintro e w1 ⟨rfl, hb⟩; have HB := hid_intro hb; first | (refine then2 (SRB.below (SRB.below (show SRB g s p false w.drew from HR.out) ((Below.refl _ _).alloc (Nat.le_refl _) _)) hb) (show N3 w.heap.size (.int .i64 0) (.int .i64 0) (.int .i64 0) w1 from N3.below (N3.new w.drew 109 (.int .i64 0) (.int .i64 0) (.int .i64 0)) hb) ?_; intro hX hZ; have HX := hid_intro hX; obtain ⟨zl, z0, z1, z2, y0, y1, y2⟩ := hZ; obtain ⟨hl1, d0, d1, d2, e0, e1, e2⟩ := hX) | (refine then1 (SRB.below (show SRB g s p false w.drew from HR.out) hb) ?_; intro hX; have HX := hid_intro hX; have hl0 : ¬ w1.heap.size = g := (by have := hX.1; omega); obtain ⟨hl1, d0, d1, d2, e0, e1, e2⟩ := hX); clear hb)
  all_goals (
    go_wp2_with fail
    go_ret
    first
      | (have hzl := zl; exact ⟨rfl, ((((HX.out.other hne 0 _).other hne 1 _).other hne 2 _).setBad), gtrans (gnew (gnew (gnew (undrew (gtrans (World.grownBy_alloc _ _ _) (rgrown HB.out _))) (Nat.le_refl _)) (Nat.le_refl _)) (Nat.le_refl _)) (rset _ g 2 _)⟩)
      | exact ⟨rfl, HX.out.setBad.below ((Below.refl _ _).alloc (Nat.le_refl _) _), galloc (gtrans (undrew (rgrown HB.out _)) (rset _ g 2 _)) _⟩)
set_option maxHeartbeats 4000000 in
theorem snum_flt (g : Nat) (s : ByteArray) (p q : Nat) (n : Int) (c : Int) (w : World) (hR : SRB g s p true w)
    (hr : ∀ w, Calls Tryd.prog 67 #[.string s, .int .i64 p] w fun e w' => e = .returned (.agg #[.int .i64 n, .int .i64 (q : Nat), .int .i64 c]) ∧ Below w.heap.size w w') :
    Calls Tryd.prog 35 #[.pointer (some ⟨g, 0, none⟩)] w fun e w' => e = .returned (.int .i64 0) ∧ SRB g s p true w' ∧ w.grownBy w' (some g) := by
  have HR := hid_intro hR
  have HH := hid_intro hr
  obtain ⟨hl, c0, c1, c2, f0, f1, f2⟩ := hR
  have hne : w.heap.size ≠ g := by omega
  clear hr
  go_enter Tryd.func35, Tryd.ntmps35
  go_wp2_with fail
  go_region_with (go_at_call 67; refine (HH.out _).mono ?_; rintro e w1 ⟨rfl, hb⟩; have HB := hid_intro hb; first | (refine then2 (SRB.below (SRB.below (show SRB g s p true w.drew from HR.out) ((Below.refl _ _).alloc (Nat.le_refl _) _)) hb) (show N3 w.heap.size (.int .i64 0) (.int .i64 0) (.int .i64 0) w1 from N3.below (N3.new w.drew 109 (.int .i64 0) (.int .i64 0) (.int .i64 0)) hb) ?_; intro hX hZ; have HX := hid_intro hX; obtain ⟨zl, z0, z1, z2, y0, y1, y2⟩ := hZ; obtain ⟨hl1, d0, d1, d2, e0, e1, e2⟩ := hX) | (refine then1 (SRB.below (show SRB g s p true w.drew from HR.out) hb) ?_; intro hX; have HX := hid_intro hX; have hl0 : ¬ w1.heap.size = g := (by have := hX.1; omega); obtain ⟨hl1, d0, d1, d2, e0, e1, e2⟩ := hX); clear hb)
  all_goals (
    go_wp2_with fail
    go_ret
    first
      | (have hzl := zl; exact ⟨rfl, ((((HX.out.other hne 0 _).other hne 1 _).other hne 2 _).setBad), gtrans (gnew (gnew (gnew (undrew (gtrans (World.grownBy_alloc _ _ _) (rgrown HB.out _))) (Nat.le_refl _)) (Nat.le_refl _)) (Nat.le_refl _)) (rset _ g 2 _)⟩)
      | exact ⟨rfl, HX.out.setBad.below ((Below.refl _ _).alloc (Nat.le_refl _) _), galloc (gtrans (undrew (rgrown HB.out _)) (rset _ g 2 _)) _⟩)
set_option maxHeartbeats 4000000 in
theorem stext_got (g : Nat) (s : ByteArray) (p q : Nat) (t : ByteArray) (w : World) (hR : SRB g s p false w)
    (hr : ∀ w, Calls Tryd.prog 66 #[.string s, .int .i64 p] w fun e w' => e = .returned (.agg #[.string t, .int .i64 (q : Nat), .int .i64 0]) ∧ Below w.heap.size w w') :
    Calls Tryd.prog 34 #[.pointer (some ⟨g, 0, none⟩)] w fun e w' => e = .returned (.string t) ∧ SRB g s q false w' ∧ w.grownBy w' (some g) := by
  have HR := hid_intro hR
  have HH := hid_intro hr
  obtain ⟨hl, c0, c1, c2, f0, f1, f2⟩ := hR
  have hne : w.heap.size ≠ g := by omega
  clear hr
  go_enter Tryd.func34, Tryd.ntmps34
  go_wp2_with fail
  go_region_with (go_at_call 66; refine (HH.out _).mono ?_; rintro e w1 ⟨rfl, hb⟩; have HB := hid_intro hb; first | (refine then2 (SRB.below (SRB.below (show SRB g s p false w.drew from HR.out) ((Below.refl _ _).alloc (Nat.le_refl _) _)) hb) (show N3 w.heap.size (.string ⟨#[]⟩) (.int .i64 0) (.int .i64 0) w1 from N3.below (N3.new w.drew 106 (.string ⟨#[]⟩) (.int .i64 0) (.int .i64 0)) hb) ?_; intro hX hZ; have HX := hid_intro hX; obtain ⟨zl, z0, z1, z2, y0, y1, y2⟩ := hZ; obtain ⟨hl1, d0, d1, d2, e0, e1, e2⟩ := hX) | (refine then1 (SRB.below (show SRB g s p false w.drew from HR.out) hb) ?_; intro hX; have HX := hid_intro hX; have hl0 : ¬ w1.heap.size = g := (by have := hX.1; omega); obtain ⟨hl1, d0, d1, d2, e0, e1, e2⟩ := hX); clear hb)
  all_goals (
    go_wp2_with fail
    go_ret
    first
      | (have hzl := zl; exact ⟨rfl, ((((HX.out.other hne 0 _).other hne 1 _).other hne 2 _).setAt q), gtrans (gnew (gnew (gnew (undrew (gtrans (World.grownBy_alloc _ _ _) (rgrown HB.out _))) (Nat.le_refl _)) (Nat.le_refl _)) (Nat.le_refl _)) (rset _ g 1 _)⟩)
      | exact ⟨rfl, (HX.out.setAt q).below ((Below.refl _ _).alloc (Nat.le_refl _) _), galloc (gtrans (undrew (rgrown HB.out _)) (rset _ g 1 _)) _⟩)
set_option maxHeartbeats 4000000 in
theorem stext_bad (g : Nat) (s : ByteArray) (p q : Nat) (t : ByteArray) (c : Int) (hc : (c == 0) = false) (w : World) (hR : SRB g s p false w)
    (hr : ∀ w, Calls Tryd.prog 66 #[.string s, .int .i64 p] w fun e w' => e = .returned (.agg #[.string t, .int .i64 (q : Nat), .int .i64 c]) ∧ Below w.heap.size w w') :
    Calls Tryd.prog 34 #[.pointer (some ⟨g, 0, none⟩)] w fun e w' => e = .returned (.string ⟨#[]⟩) ∧ SRB g s p true w' ∧ w.grownBy w' (some g) := by
  have HR := hid_intro hR
  have HH := hid_intro hr
  obtain ⟨hl, c0, c1, c2, f0, f1, f2⟩ := hR
  have hne : w.heap.size ≠ g := by omega
  have hcn : ¬ c = 0 := by simpa using hc
  have hcn2 : (c != 0) = true := by simp [hcn]
  clear hr
  go_enter Tryd.func34, Tryd.ntmps34
  go_wp2_with fail
  go_region_with (go_at_call 66; refine (HH.out _).mono ?_; rintro e w1 ⟨rfl, hb⟩; have HB := hid_intro hb; first | (refine then2 (SRB.below (SRB.below (show SRB g s p false w.drew from HR.out) ((Below.refl _ _).alloc (Nat.le_refl _) _)) hb) (show N3 w.heap.size (.string ⟨#[]⟩) (.int .i64 0) (.int .i64 0) w1 from N3.below (N3.new w.drew 106 (.string ⟨#[]⟩) (.int .i64 0) (.int .i64 0)) hb) ?_; intro hX hZ; have HX := hid_intro hX; obtain ⟨zl, z0, z1, z2, y0, y1, y2⟩ := hZ; obtain ⟨hl1, d0, d1, d2, e0, e1, e2⟩ := hX) | (refine then1 (SRB.below (show SRB g s p false w.drew from HR.out) hb) ?_; intro hX; have HX := hid_intro hX; have hl0 : ¬ w1.heap.size = g := (by have := hX.1; omega); obtain ⟨hl1, d0, d1, d2, e0, e1, e2⟩ := hX); clear hb)
  all_goals (
    go_wp2_with fail
    go_ret
    first
      | (have hzl := zl; exact ⟨rfl, ((((HX.out.other hne 0 _).other hne 1 _).other hne 2 _).setBad), gtrans (gnew (gnew (gnew (undrew (gtrans (World.grownBy_alloc _ _ _) (rgrown HB.out _))) (Nat.le_refl _)) (Nat.le_refl _)) (Nat.le_refl _)) (rset _ g 2 _)⟩)
      | exact ⟨rfl, HX.out.setBad.below ((Below.refl _ _).alloc (Nat.le_refl _) _), galloc (gtrans (undrew (rgrown HB.out _)) (rset _ g 2 _)) _⟩)
set_option maxHeartbeats 4000000 in
theorem stext_flt (g : Nat) (s : ByteArray) (p q : Nat) (t : ByteArray) (c : Int) (w : World) (hR : SRB g s p true w)
    (hr : ∀ w, Calls Tryd.prog 66 #[.string s, .int .i64 p] w fun e w' => e = .returned (.agg #[.string t, .int .i64 (q : Nat), .int .i64 c]) ∧ Below w.heap.size w w') :
    Calls Tryd.prog 34 #[.pointer (some ⟨g, 0, none⟩)] w fun e w' => e = .returned (.string ⟨#[]⟩) ∧ SRB g s p true w' ∧ w.grownBy w' (some g) := by
  have HR := hid_intro hR
  have HH := hid_intro hr
  obtain ⟨hl, c0, c1, c2, f0, f1, f2⟩ := hR
  have hne : w.heap.size ≠ g := by omega
  clear hr
  go_enter Tryd.func34, Tryd.ntmps34
  go_wp2_with fail
  go_region_with (go_at_call 66; refine (HH.out _).mono ?_; rintro e w1 ⟨rfl, hb⟩; have HB := hid_intro hb; first | (refine then2 (SRB.below (SRB.below (show SRB g s p true w.drew from HR.out) ((Below.refl _ _).alloc (Nat.le_refl _) _)) hb) (show N3 w.heap.size (.string ⟨#[]⟩) (.int .i64 0) (.int .i64 0) w1 from N3.below (N3.new w.drew 106 (.string ⟨#[]⟩) (.int .i64 0) (.int .i64 0)) hb) ?_; intro hX hZ; have HX := hid_intro hX; obtain ⟨zl, z0, z1, z2, y0, y1, y2⟩ := hZ; obtain ⟨hl1, d0, d1, d2, e0, e1, e2⟩ := hX) | (refine then1 (SRB.below (show SRB g s p true w.drew from HR.out) hb) ?_; intro hX; have HX := hid_intro hX; have hl0 : ¬ w1.heap.size = g := (by have := hX.1; omega); obtain ⟨hl1, d0, d1, d2, e0, e1, e2⟩ := hX); clear hb)
  all_goals (
    go_wp2_with fail
    go_ret
    first
      | (have hzl := zl; exact ⟨rfl, ((((HX.out.other hne 0 _).other hne 1 _).other hne 2 _).setBad), gtrans (gnew (gnew (gnew (undrew (gtrans (World.grownBy_alloc _ _ _) (rgrown HB.out _))) (Nat.le_refl _)) (Nat.le_refl _)) (Nat.le_refl _)) (rset _ g 2 _)⟩)
      | exact ⟨rfl, HX.out.setBad.below ((Below.refl _ _).alloc (Nat.le_refl _) _), galloc (gtrans (undrew (rgrown HB.out _)) (rset _ g 2 _)) _⟩)
/-- What a read of the model's leaves: the reader behind it, with or without a fault. -/
def SAfter (g : Nat) (s : ByteArray) (o : Option Nat) (w : World) : Prop := match o with
  | some p => p ≤ 8000 ∧ SRB g s p false w
  | none => ∃ p, p ≤ 8000 ∧ SRB g s p true w
theorem srnum (g : Nat) (s : ByteArray) (o : Option Nat) (w : World) (hs : s.size ≤ 8000) (h : SAfter g s o w) :
    Calls Tryd.prog 35 #[.pointer (some ⟨g, 0, none⟩)] w fun e w' => e = .returned (.int .i64 (((o.bind (numAt s)).map (·.1)).getD 0)) ∧ SAfter g s ((o.bind (numAt s)).map (·.2)) w' ∧ w.grownBy w' (some g) := by
  cases o with
  | none =>
    obtain ⟨p, hp, h⟩ := h
    rcases num_spec s p hs hp with ⟨n, q, hn, _, hq, hc⟩ | ⟨hn, c, hc0, hc⟩
    · exact (snum_flt g s p q n 0 w h hc).mono fun e w' ⟨h1, h2, h3⟩ => ⟨h1, ⟨p, hp, h2⟩, h3⟩
    · exact (snum_flt g s p 0 0 c w h hc).mono fun e w' ⟨h1, h2, h3⟩ => ⟨h1, ⟨p, hp, h2⟩, h3⟩
  | some p =>
    rcases num_spec s p hs h.1 with ⟨n, q, hn, _, hq, hc⟩ | ⟨hn, c, hc0, hc⟩
    · refine (snum_got g s p q n w h.2 hc).mono fun e w' ⟨h1, h2, h3⟩ => ?_
      simp only [Option.bind_some, hn]
      exact ⟨h1, ⟨hq, h2⟩, h3⟩
    · refine (snum_bad g s p 0 0 c hc0 w h.2 hc).mono fun e w' ⟨h1, h2, h3⟩ => ?_
      simp only [Option.bind_some, hn]
      exact ⟨h1, ⟨p, h.1, h2⟩, h3⟩
theorem srtext (g : Nat) (s : ByteArray) (o : Option Nat) (w : World) (hs : s.size ≤ 8000) (h : SAfter g s o w) :
    Calls Tryd.prog 34 #[.pointer (some ⟨g, 0, none⟩)] w fun e w' => e = .returned (.string (((o.bind (txtAt s)).map (·.1)).getD ⟨#[]⟩)) ∧ SAfter g s ((o.bind (txtAt s)).map (·.2)) w' ∧ w.grownBy w' (some g) := by
  cases o with
  | none =>
    obtain ⟨p, hp, h⟩ := h
    rcases txt_spec s p hs hp with ⟨n, q, hn, _, hq, hc⟩ | ⟨hn, c, hc0, hc⟩
    · exact (stext_flt g s p q n 0 w h hc).mono fun e w' ⟨h1, h2, h3⟩ => ⟨h1, ⟨p, hp, h2⟩, h3⟩
    · exact (stext_flt g s p 0 ⟨#[]⟩ c w h hc).mono fun e w' ⟨h1, h2, h3⟩ => ⟨h1, ⟨p, hp, h2⟩, h3⟩
  | some p =>
    rcases txt_spec s p hs h.1 with ⟨n, q, hn, _, hq, hc⟩ | ⟨hn, c, hc0, hc⟩
    · refine (stext_got g s p q n w h.2 hc).mono fun e w' ⟨h1, h2, h3⟩ => ?_
      simp only [Option.bind_some, hn]
      exact ⟨h1, ⟨hq, h2⟩, h3⟩
    · refine (stext_bad g s p 0 ⟨#[]⟩ c hc0 w h.2 hc).mono fun e w' ⟨h1, h2, h3⟩ => ?_
      simp only [Option.bind_some, hn]
      exact ⟨h1, ⟨p, h.1, h2⟩, h3⟩
end EvtR
end Go.Proofs.YtnlmpejgiakepaaDoor
namespace Go.Proofs.YtnlmpejgiakepaaDoor
open Go.ChangeShapes Go.WideShapes Go.ChangeAt Go.RowKit
set_option linter.unusedVariables false
namespace WordR
def seen (c : Int) : Bool := decide (33 ≤ c ∧ c ≤ 126)
def upTo (s : ByteArray) (k : Nat) : Prop := ∀ i (h : i < s.size), i < k → seen (s[i].toNat : Int) = true
def upToDec (s : ByteArray) (k : Nat) : Decidable (upTo s k) := inferInstanceAs (Decidable (∀ i (h : i < s.size), i < k → seen (s[i].toNat : Int) = true))
/-- Are all bytes seen ones? -/
def printB (s : ByteArray) : Bool := @decide (upTo s s.size) (upToDec s s.size)
theorem print_no {s : ByteArray} {k : Nat} (h : k < s.size) (hb : seen (s[k].toNat : Int) = false) : printB s = false := by
  unfold printB; simp; intro hu; have := hu k h h; simp [hb] at this
theorem print_yes {s : ByteArray} (hu : upTo s s.size) : printB s = true := by unfold printB; simpa using hu
theorem upTo_zero (s : ByteArray) : upTo s 0 := fun _ _ h => absurd h (by omega)
theorem upTo_succ {s : ByteArray} {k : Nat} (hu : upTo s k) (h : k < s.size) (hb : seen (s[k].toNat : Int) = true) : upTo s (k + 1) := by
  intro i hi hk
  by_cases e : i = k
  · subst e; exact hb
  · exact hu i hi (by omega)
theorem hid_intro' {p : Prop} (h : p) : Hid p := h
theorem byte_lt (s : ByteArray) (k : Nat) (h : k < s.size) : (s[k].toNat : Int) < 256 := by
  have := s[k].toNat_lt; omega
set_option maxRecDepth 100000 in
set_option maxHeartbeats 2000000 in
theorem impl_printed (s : ByteArray) (w : World) (hs : s.size ≤ 1048576) :
    Calls Tryd.prog 108 #[.string s] w fun e w' => e = .returned (.bool (printB s)) ∧ Below w.heap.size w w' := by
  have HB : ∀ pos, Hid (Below w.heap.size w (w.iter s pos)) := fun pos => (Below.refl w.heap.size w).alloc (Nat.le_refl _) _
  go_enter Tryd.func108, Tryd.ntmps108
  go_wp2
  go_loopw [2] (fun _ w' => ∃ pos : Nat, w' = w.iter s pos ∧ upTo s pos ∧ pos ≤ s.size) (fun _ w' => s.size - w'.iterPos w.heap.size)
  case atStart => exact ⟨0, rfl, upTo_zero s, Nat.zero_le _⟩
  case round =>
    obtain ⟨pos, rfl, hu, hle⟩ := hrel
    by_cases hp : pos < s.size
    · have HN := print_no (s := s) hp
      have HY := upTo_succ hu hp
      by_cases ha : (s[pos]'hp).toNat < 128
      · have hnx : ∀ ty, (Instr.next (.pointer (some ⟨w.heap.size, 0, none⟩)) true ty).run Tryd.prog (w.iter s pos) = _ := fun ty => run_next_ascii w s pos ty hp ha
        obtain ⟨c, hc⟩ : ∃ c, c = (s[pos]'hp).toNat := ⟨_, rfl⟩
        rw [← hc] at HN HY ha hnx
        have HN' := hid_intro' HN
        have HY' := hid_intro' HY
        clear HN HY hc hu
        rcases (show ((c : Int) < 33) ∨ (33 ≤ (c : Int) ∧ (c : Int) ≤ 126) ∨ (126 < (c : Int)) by omega) with h | ⟨h1, h2⟩ | h
        · have h' : ¬ 33 ≤ (c : Int) := by omega
          go_wp2
          go_ret
          exact ⟨ret_bool (HN'.out (by unfold seen; simp; omega)).symm, (HB _).out⟩
        · go_wp2
          go_roundw
          case rel => exact ⟨pos + 1, rfl, HY'.out (by unfold seen; simp; omega), by omega⟩
          case measure => simp; omega
        · have h' : ¬ (c : Int) ≤ 126 := by omega
          have h'' : 33 ≤ (c : Int) := by omega
          go_wp2
          go_ret
          exact ⟨ret_bool (HN'.out (by unfold seen; simp; omega)).symm, (HB _).out⟩
      · have hnx : ∀ ty, (Instr.next (.pointer (some ⟨w.heap.size, 0, none⟩)) true ty).run Tryd.prog (w.iter s pos) = _ := fun ty => run_next_any w s pos ty hp
        obtain ⟨d1, d2⟩ := decode_high s pos hp (by omega)
        have HN' := hid_intro' (HN (by unfold seen; simp; omega))
        clear HN HY hu
        generalize (Utf8.decode s pos).1 = c at *
        generalize (Utf8.decode s pos).2 = k at *
        have h' : ¬ (c : Int) ≤ 126 := by omega
        have h'' : 33 ≤ (c : Int) := by omega
        go_wp2
        go_ret
        exact ⟨ret_bool HN'.out.symm, (HB _).out⟩
    · have hnx : ∀ ty, (Instr.next (.pointer (some ⟨w.heap.size, 0, none⟩)) true ty).run Tryd.prog (w.iter s pos) = _ := fun ty => run_next_end w s pos ty hp
      go_wp2
      go_ret
      obtain rfl : pos = s.size := by omega
      exact ⟨ret_bool (print_yes hu).symm, (HB _).out⟩
set_option maxHeartbeats 2000000 in
theorem spec_word (s : ByteArray) (most : Int) (w : World) (hs : s.size ≤ 1048576) :
    Calls Tryd.prog 46 #[.string s, .int .i64 most] w fun e w' => e = .returned (.bool (printB s && decide ((s.size : Int) ≤ most))) ∧ w' = w := by
  go_enter Tryd.func46, Tryd.ntmps46
  go_wp2
  go_loop [5] (fun i => ∃ k : Nat, k ≤ s.size ∧ i = .int .i64 k ∧ upTo s k) (fun i => s.size - (intOf i).toNat)
  case atStart => exact ⟨0, Nat.zero_le _, rfl, upTo_zero s⟩
  case round =>
    obtain ⟨k, hk, rfl, hu⟩ := hrel
    by_cases hlt : k < s.size
    · have HN := hid_intro' (print_no (s := s) hlt)
      have HY := hid_intro' (upTo_succ hu hlt)
      clear hu
      rcases (show ((s[k].toNat : Int) < 33) ∨ (¬ (s[k].toNat : Int) < 33 ∧ (s[k].toNat : Int) ≤ 126) ∨ (¬ (s[k].toNat : Int) < 33 ∧ 126 < (s[k].toNat : Int)) by omega) with h | ⟨h1, h2⟩ | ⟨h1, h2⟩
      · go_wp2
        go_ret
        exact ⟨ret_bool (by rw [HN.out (by unfold seen; simp; omega)]; rfl), rfl⟩
      · have h3 : ¬ 126 < (s[k].toNat : Int) := by omega
        go_wp2
        go_round
        case rel => exact ⟨k + 1, by omega, by go_num, HY.out (by unfold seen; simp; omega)⟩
        case measure => simp [intOf]; omega
      · go_wp2
        go_ret
        exact ⟨ret_bool (by rw [HN.out (by unfold seen; simp; omega)]; rfl), rfl⟩
    · obtain rfl : k = s.size := by omega
      have HP := hid_intro' (print_yes hu)
      clear hu
      by_cases hm : (s.size : Int) ≤ most
      all_goals
        go_wp2
        go_ret
        exact ⟨ret_bool (by simp [HP.out, hm]), rfl⟩
end WordR
end Go.Proofs.YtnlmpejgiakepaaDoor
namespace Go.Proofs.YtnlmpejgiakepaaDoor
open Go.ChangeShapes Go.WideShapes Go.ChangeAt Go.RowKit
set_option linter.unusedVariables false
namespace EvtR
open WordR
theorem hid_intro {p : Prop} (h : p) : Hid p := h
def idB (s : ByteArray) : Bool := decide (1 ≤ s.size ∧ s.size ≤ 20) && printB s
theorem impl_id (s : ByteArray) (w : World) (hs : s.size ≤ 1048576) : Calls Tryd.prog 82 #[.string s] w fun e w' => e = .returned (.bool (idB s)) ∧ Below w.heap.size w w' := by
  have HP := hid_intro (fun w => impl_printed s w hs)
  unfold idB
  generalize printB s = p at *
  rcases (show (¬ 1 ≤ s.size) ∨ (1 ≤ s.size ∧ ¬ s.size ≤ 20) ∨ (1 ≤ s.size ∧ s.size ≤ 20) by omega) with h | ⟨h1, h2⟩ | ⟨h1, h2⟩
  · have h' : ¬ (1 : Int) ≤ (s.size : Int) := by omega
    go_enter Tryd.func82, Tryd.ntmps82
    go_wp2_with (go_at_call 102; go_in)
    go_ret
    exact ⟨ret_bool (by first | (simp; done) | (simp; omega)), Below.refl _ _⟩
  · have h' : (1 : Int) ≤ (s.size : Int) := by omega
    have h'' : ¬ (s.size : Int) ≤ 20 := by omega
    go_enter Tryd.func82, Tryd.ntmps82
    go_wp2_with (go_at_call 102; go_in)
    go_ret
    exact ⟨ret_bool (by first | (simp; done) | (simp; omega)), Below.refl _ _⟩
  · have h' : (1 : Int) ≤ (s.size : Int) := by omega
    have h'' : (s.size : Int) ≤ 20 := by omega
    go_enter Tryd.func82, Tryd.ntmps82
    go_wp2_with (first | (go_at_call 102; go_in) | (go_at_call 108; refine (HP.out _).mono ?_; rintro e w1 ⟨rfl, hb1⟩))
    go_ret
    exact ⟨ret_bool (by simp [h1, h2]), hb1⟩
theorem within_any (n low high : Int) (w : World) :
    Calls Tryd.prog 85 #[.int .i64 n, .int .i64 low, .int .i64 high] w fun e w' => e = .returned (.bool (decide (low ≤ n ∧ n ≤ high))) ∧ w' = w := by
  rcases (show (¬ low ≤ n) ∨ (low ≤ n ∧ ¬ n ≤ high) ∨ (low ≤ n ∧ n ≤ high) by omega) with h | ⟨h1, h2⟩ | ⟨h1, h2⟩
  all_goals
    go_enter Tryd.func85, Tryd.ntmps85
    go_wp2
    go_ret
    exact ⟨ret_bool (by first | (simp [*]; done) | (simp; omega)), rfl⟩
theorem minute_any (n : Int) (w : World) : Calls Tryd.prog 84 #[.int .i64 n] w fun e w' => e = .returned (.bool (decide (0 ≤ n ∧ n ≤ 121000000))) ∧ w' = w := by
  have H := within_any n 0 121000000
  generalize decide (0 ≤ n ∧ n ≤ 121000000) = b at *
  go_enter Tryd.func84, Tryd.ntmps84
  go_wp2_with (go_at_call 85; refine (H _).mono ?_; rintro e w' ⟨rfl, rfl⟩)
  go_ret
  exact ⟨rfl, rfl⟩
theorem is_any (n low high : Int) (w : World) :
    Calls Tryd.prog 43 #[.int .i64 n, .int .i64 low, .int .i64 high] w fun e w' => e = .returned (.bool (decide (low ≤ n ∧ n ≤ high))) ∧ w' = w := by
  rcases (show (¬ low ≤ n) ∨ (low ≤ n ∧ ¬ n ≤ high) ∨ (low ≤ n ∧ n ≤ high) by omega) with h | ⟨h1, h2⟩ | ⟨h1, h2⟩
  all_goals
    go_enter Tryd.func43, Tryd.ntmps43
    go_wp2
    go_ret
    exact ⟨ret_bool (by first | (simp [*]; done) | (simp; omega)), rfl⟩
theorem sminute_any (n : Int) (w : World) : Calls Tryd.prog 47 #[.int .i64 n] w fun e w' => e = .returned (.bool (decide (0 ≤ n ∧ n ≤ 121000000))) ∧ w' = w := by
  have H := is_any n 0 121000000
  generalize decide (0 ≤ n ∧ n ≤ 121000000) = b at *
  go_enter Tryd.func47, Tryd.ntmps47
  go_wp2_with (go_at_call 43; refine (H _).mono ?_; rintro e w' ⟨rfl, rfl⟩)
  go_ret
  exact ⟨rfl, rfl⟩
theorem empty_of (i : ByteArray) (h : i.size = 0) : i.toList = [] := by
  rw [ByteArray.toList_eq]
  exact List.eq_nil_of_length_eq_zero h
theorem full_of (i : ByteArray) (h : i.size ≠ 0) : i.toList ≠ [] ∧ i.toList.isEmpty = false := by
  have a : i.toList ≠ [] := by
    rw [ByteArray.toList_eq]
    intro e
    exact h (show i.data.toList.length = 0 by rw [e]; rfl)
  exact ⟨a, by cases hl : i.toList with
    | nil => exact absurd hl a
    | cons x l => rfl⟩
end EvtR
end Go.Proofs.YtnlmpejgiakepaaDoor
namespace Go.Proofs.YtnlmpejgiakepaaDoor
open Go.ChangeShapes Go.WideShapes Go.ChangeAt Go.RowKit
set_option linter.unusedVariables false
namespace EvtR
open GetR NumsR
theorem rdrewN {B : Nat} {a w : World} (h : Below B a w) (n : Nat) : Below B a (w.drewN n) := ⟨h.os, h.tape, h.output, h.size, h.block⟩
theorem ended_any (g : Nat) (s : ByteArray) (o : Option Nat) (w : World) (hs : s.size ≤ 8000) (h : After g s o w) :
    Calls Tryd.prog 39 #[.pointer (some ⟨g, 0, none⟩)] w fun e w' => e = .returned (.bool (decide (o = some s.size))) ∧ Below w.heap.size w w' := by
  cases o with
  | none =>
    obtain ⟨p, c, hR⟩ := h
    unfold flt at hR
    obtain ⟨hl, c0, c1, c2, f0, f1, f2⟩ := hR
    go_enter Tryd.func39, Tryd.ntmps39
    go_wp2_with fail
    go_quiet (fail)
    go_wp2
    go_ret
    exact ⟨rfl, rdrewN (Below.refl _ _) _⟩
  | some p =>
    obtain ⟨hp, hl, c0, c1, c2, f0, f1, f2⟩ := h
    by_cases he : p = s.size
    · subst he
      go_enter Tryd.func39, Tryd.ntmps39
      go_wp2_with fail
      go_quiet (fail)
      go_wp2
      go_ret
      exact ⟨ret_bool (by simp), rdrewN (Below.refl _ _) _⟩
    · have he' : ¬ (p : Int) = (s.size : Int) := by omega
      go_enter Tryd.func39, Tryd.ntmps39
      go_wp2_with fail
      go_quiet (fail)
      go_wp2
      go_ret
      exact ⟨ret_bool (by simp [he]; exact he'), rdrewN (Below.refl _ _) _⟩
/-- A text read, with or without a fault ahead. -/
def rT (s : ByteArray) (o : Option Nat) : ByteArray := ((o.bind (txtAt s)).map (·.1)).getD ⟨#[]⟩
def pT (s : ByteArray) (o : Option Nat) : Option Nat := (o.bind (txtAt s)).map (·.2)
def rN (s : ByteArray) (o : Option Nat) : Int := ((o.bind (numAt s)).map (·.1)).getD 0
def pN (s : ByteArray) (o : Option Nat) : Option Nat := (o.bind (numAt s)).map (·.2)
theorem After.lt {g : Nat} {s : ByteArray} {o : Option Nat} {w : World} (h : After g s o w) : g < w.heap.size := by
  cases o with
  | none => obtain ⟨p, c, h⟩ := h; exact h.1
  | some p => exact h.2.1
theorem After.below {g : Nat} {s : ByteArray} {o : Option Nat} {w w' : World} (h : After g s o w) (hb : Below w.heap.size w w') : After g s o w' := by
  cases o with
  | none => obtain ⟨p, c, h⟩ := h; exact ⟨p, c, h.below hb⟩
  | some p => exact ⟨h.1, h.2.below hb⟩
theorem After.alloc {g : Nat} {s : ByteArray} {o : Option Nat} {w : World} (h : After g s o w) (x : Obj) : After g s o (w.alloc x) := h.below ((Below.refl _ _).alloc (Nat.le_refl _) x)
theorem gnew' {w wx : World} {g X o : Nat} {v : Value} (h : w.grownBy wx (some g)) (hX : w.heap.size ≤ X) : w.grownBy (wx.setCell ⟨X, o, none⟩ v) (some g) := by
  have hg := rset wx X o v
  refine ⟨hg.os.trans h.os, hg.tape.trans h.tape, hg.output.trans h.output, by have := h.size; have := hg.size; omega, fun k hk hne => ?_⟩
  have hs := h.size
  exact (hg.block k (by omega) (by intro e; cases e; omega)).trans (h.block k hk hne)
theorem After.other {g : Nat} {s : ByteArray} {o : Option Nat} {w : World} (h : After g s o w) {X : Nat} (hX : X ≠ g) (k : Nat) (v : Value) : After g s o (w.setCell ⟨X, k, none⟩ v) := by
  have key : ∀ p f, RdB g s p f w → RdB g s p f (w.setCell ⟨X, k, none⟩ v) := by
    intro p f hr
    obtain ⟨hl, c0, c1, c2, f0, f1, f2⟩ := hr
    have e := (rset w X k v).block g hl (by simp; exact fun h => hX h.symm)
    have c := fun j => World.cell?_of_block (a := ⟨g, j, none⟩) e
    have z := fun j => World.frozen?_of_block (a := ⟨g, j, none⟩) e
    exact ⟨by simpa using hl, (c 0).trans c0, (c 1).trans c1, (c 2).trans c2, (z 0).trans f0, (z 1).trans f1, (z 2).trans f2⟩
  cases o with
  | none => obtain ⟨p, c, h⟩ := h; exact ⟨p, c, key _ _ h⟩
  | some p => exact ⟨h.1, key _ _ h.2⟩
/-- What one call of a reader leaves. -/
abbrev Reads (f : Nat) (g : Nat) (s : ByteArray) (o o' : Option Nat) (v : Value) : Prop := ∀ w, After g s o w → Calls Tryd.prog f #[.pointer (some ⟨g, 0, none⟩)] w fun e w' => e = .returned v ∧ After g s o' w' ∧ w.grownBy w' (some g)
theorem rT_size (s : ByteArray) (o : Option Nat) : (rT s o).size ≤ 8000 := by
  unfold rT
  cases h : o.bind (txtAt s) with
  | none => exact Nat.zero_le _
  | some x =>
    obtain ⟨t, q⟩ := x
    obtain ⟨p, rfl, hp⟩ := Option.bind_eq_some_iff.1 h
    simpa using (txtAt_back hp).1
theorem After.rdb {g : Nat} {s : ByteArray} {o : Option Nat} {w : World} (h : After g s o w) : ∃ p f, RdB g s p f w := by
  cases o with
  | none => obtain ⟨p, c, h⟩ := h; exact ⟨p, _, h⟩
  | some p => exact ⟨p, _, h.2⟩
/-- How many, and the place or fault behind it. -/
def rC (s : ByteArray) (o : Option Nat) (m : Nat) : Nat := if 0 ≤ rN s o ∧ rN s o ≤ m then (rN s o).toNat else 0
def pC (s : ByteArray) (o : Option Nat) (m : Nat) : Option Nat := if 0 ≤ rN s o ∧ rN s o ≤ m then pN s o else none
theorem rC_le (s : ByteArray) (o : Option Nat) (m : Nat) : rC s o m ≤ m := by
  unfold rC
  split <;> omega
set_option maxHeartbeats 4000000 in
theorem rcount (g : Nat) (s : ByteArray) (o : Option Nat) (m : Nat) (w : World) (hs : s.size ≤ 8000) (h : After g s o w) :
    Calls Tryd.prog 71 #[.pointer (some ⟨g, 0, none⟩), .int .i64 m] w fun e w' => e = .returned (.int .i64 (rC s o m)) ∧ After g s (pC s o m) w' ∧ w.grownBy w' (some g) := by
  have H1 : Hid (∀ w1, After g s o w1 → Calls Tryd.prog 70 #[.pointer (some ⟨g, 0, none⟩)] w1 fun e w' => e = .returned (.int .i64 (rN s o)) ∧ After g s (pN s o) w' ∧ w1.grownBy w' (some g)) := hid_intro (fun w1 h => rnum _ s o w1 hs h)
  have HC : Hid (rC s o m = if 0 ≤ rN s o ∧ rN s o ≤ m then (rN s o).toNat else 0) := rfl
  have HP : Hid (pC s o m = if 0 ≤ rN s o ∧ rN s o ≤ m then pN s o else none) := rfl
  generalize rN s o = c at *
  generalize pN s o = o0 at *
  generalize rC s o m = C at *
  generalize pC s o m = o1 at *
  have HA := hid_intro h
  clear h
  go_enter Tryd.func71, Tryd.ntmps71
  go_wp2_with fail
  refine (H1.out _ HA.out).mono ?_
  rintro e w1 ⟨rfl, hA, hg⟩
  have HG := hid_intro hg
  have HWI := hid_intro (fun w => within_any c 0 m w)
  by_cases k : 0 ≤ c ∧ c ≤ m
  · rw [decide_eq_true k] at HWI
    have e1 : (C : Int) = c := by rw [HC.out, if_pos k]; omega
    have e2 : o1 = o0 := by rw [HP.out, if_pos k]
    clear HC HP hg
    subst e1
    subst e2
    go_wp2_with (go_at_call 85; refine (HWI.out _).mono ?_; rintro e w' ⟨rfl, rfl⟩)
    go_ret
    exact ⟨rfl, hA, HG.out⟩
  · rw [decide_eq_false k] at HWI
    have e1 : C = 0 := by rw [HC.out, if_neg k]
    have e2 : o1 = none := by rw [HP.out, if_neg k]
    obtain ⟨p, f, hR⟩ := hA.rdb
    have HR := hid_intro hR
    obtain ⟨hl, c0, c1, c2, f0, f1, f2⟩ := hR
    clear HC HP hg hA
    subst e1
    subst e2
    go_wp2_with (go_at_call 85; refine (HWI.out _).mono ?_; rintro e w' ⟨rfl, rfl⟩)
    go_ret
    refine ⟨rfl, ⟨p, 3, ?_⟩, ?_⟩
    · obtain ⟨hl, c0, c1, c2, f0, f1, f2⟩ := HR.out
      exact ⟨by simpa using hl, by simp [go_sem, c0], by simp [go_sem, c1], by simp [go_sem, c2, flt], by simp [go_sem, f0], by simp [go_sem, f1], by simp [go_sem, f2]⟩
    · refine gtrans HG.out ?_
      first | exact rset _ g 2 _ | exact gtrans (World.grownBy_alloc _ _ _) (rset _ g 2 _)
theorem SAfter.lt {g : Nat} {s : ByteArray} {o : Option Nat} {w : World} (h : SAfter g s o w) : g < w.heap.size := by
  cases o with
  | none => obtain ⟨p, hp, h⟩ := h; exact h.1
  | some p => exact h.2.1
theorem SAfter.grown {g : Nat} {s : ByteArray} {o : Option Nat} {w w' : World} {row : Option Nat} (h : SAfter g s o w) (hg : w.grownBy w' row) (hne : some g ≠ row) : SAfter g s o w' := by
  have key : ∀ p f, SRB g s p f w → SRB g s p f w' := by
    intro p f hr
    obtain ⟨hl, c0, c1, c2, f0, f1, f2⟩ := hr
    have e := hg.block g hl hne
    have c := fun j => World.cell?_of_block (a := ⟨g, j, none⟩) e
    have z := fun j => World.frozen?_of_block (a := ⟨g, j, none⟩) e
    exact ⟨by have := hg.size; omega, (c 0).trans c0, (c 1).trans c1, (c 2).trans c2, (z 0).trans f0, (z 1).trans f1, (z 2).trans f2⟩
  cases o with
  | none => obtain ⟨p, c, h⟩ := h; exact ⟨p, c, key _ _ h⟩
  | some p => exact ⟨h.1, key _ _ h.2⟩
theorem SAfter.open {g : Nat} {s : ByteArray} {o : Option Nat} {w : World} (h : SAfter g s o w) : ∃ p, SRB g s p (decide (o = none)) w := by
  cases o with
  | none => obtain ⟨p, hp, h⟩ := h; exact ⟨p, by simpa using h⟩
  | some p => exact ⟨p, by simpa using h.2⟩
theorem many_any (g : Nat) (s : ByteArray) (o0 : Option Nat) (M : Nat) (w : World) (hs : s.size ≤ 8000) (h : SAfter g s o0 w) :
    Calls Tryd.prog 36 #[.pointer (some ⟨g, 0, none⟩), .int .i64 M] w fun e w' => (if 0 ≤ rN s o0 ∧ rN s o0 ≤ (M : Int) then e = .returned (.int .i64 (rN s o0)) ∧ SAfter g s (pN s o0) w' else e = .returned (.int .i64 0) ∧ SAfter g s none w') ∧ w.grownBy w' (some g) := by
  have H1 : Hid (∀ w, SAfter g s o0 w → Calls Tryd.prog 35 #[.pointer (some ⟨g, 0, none⟩)] w fun e w' => e = .returned (.int .i64 (rN s o0)) ∧ SAfter g s (pN s o0) w' ∧ w.grownBy w' (some g)) := hid_intro (fun w h => srnum g s _ w hs h)
  have HI := hid_intro (fun w => is_any (rN s o0) 0 (M : Int) w)
  have HA := hid_intro h
  generalize rN s o0 = c at *
  generalize pN s o0 = o at *
  clear h
  by_cases hc : 0 ≤ c ∧ c ≤ (M : Int)
  · simp only [if_pos hc]
    rw [decide_eq_true hc] at HI
    go_enter Tryd.func36, Tryd.ntmps36
    go_wp2_with fail
    refine (H1.out _ HA.out).mono ?_
    rintro e w1 ⟨rfl, hA, hg⟩
    have HA1 := hid_intro hA
    have HG1 := hid_intro hg
    clear hA hg
    go_wp2_with (go_at_call 43; refine (HI.out _).mono ?_; rintro e w' ⟨rfl, rfl⟩)
    go_ret
    exact ⟨⟨rfl, HA1.out⟩, HG1.out⟩
  · simp only [if_neg hc]
    rw [decide_eq_false hc] at HI
    go_enter Tryd.func36, Tryd.ntmps36
    go_wp2_with fail
    refine (H1.out _ HA.out).mono ?_
    rintro e w1 ⟨rfl, hA, hg⟩
    have HG1 := hid_intro hg
    clear hg
    obtain ⟨p, b, hp, hR⟩ : ∃ p b, p ≤ 8000 ∧ SRB g s p b w1 := by
      cases o with
      | none => obtain ⟨p, hp, h⟩ := hA; exact ⟨p, _, hp, h⟩
      | some p => exact ⟨p, _, hA.1, hA.2⟩
    have HR := hid_intro hR
    obtain ⟨hl, c0, c1, c2, f0, f1, f2⟩ := hR
    clear hA
    go_wp2_with (go_at_call 43; refine (HI.out _).mono ?_; rintro e w' ⟨rfl, rfl⟩)
    go_ret
    exact ⟨⟨rfl, p, hp, HR.out.setBad⟩, gtrans HG1.out (rset _ g 2 _)⟩
end EvtR
end Go.Proofs.YtnlmpejgiakepaaDoor
namespace Go.Proofs.YtnlmpejgiakepaaDoor
open Go.ChangeShapes Go.WideShapes Go.ChangeAt Go.RowKit
set_option linter.unusedVariables false
namespace EvtR
/-- Cells that may be written. -/
structure Pt (g m : Nat) (w : World) : Prop where
  lt : g < w.heap.size
  has : ∀ o, o < m → ∃ v, w.cell? ⟨g, o, none⟩ = some v
  free : ∀ o, o < m → w.frozen? ⟨g, o, none⟩ = false
theorem Pt.below {g m : Nat} {w w' : World} (h : Pt g m w) (hb : Below w.heap.size w w') : Pt g m w' :=
  ⟨by have := hb.size; have := h.lt; omega, fun o ho => by obtain ⟨v, hv⟩ := h.has o ho; exact ⟨v, (hb.cell (p := ⟨g, o, none⟩) h.lt).trans hv⟩, fun o ho => (hb.frozen (p := ⟨g, o, none⟩) h.lt).trans (h.free o ho)⟩
theorem cell_put {g m : Nat} {w : World} (h : Pt g m w) (o : Nat) (ho : o < m) (v : Value) : (w.setCell ⟨g, o, none⟩ v).cell? ⟨g, o, none⟩ = some v := by
  obtain ⟨u, hu⟩ := h.has o ho
  simp [go_sem, hu]
theorem cell_far {g : Nat} {w : World} (o o' : Nat) (ho : o ≠ o') (v : Value) : (w.setCell ⟨g, o, none⟩ v).cell? ⟨g, o', none⟩ = w.cell? ⟨g, o', none⟩ := by
  simp [go_sem]
theorem Pt.set {g m : Nat} {w : World} (h : Pt g m w) (o : Nat) (v : Value) : Pt g m (w.setCell ⟨g, o, none⟩ v) := by
  refine ⟨by simpa using h.lt, fun x hx => ?_, fun x hx => ?_⟩
  · by_cases e : o = x
    · subst e; exact ⟨v, cell_put h o hx v⟩
    · obtain ⟨u, hu⟩ := h.has x hx
      exact ⟨u, (cell_far o x e v).trans hu⟩
  · have := h.free x hx
    simp [go_sem, this]
end EvtR
end Go.Proofs.YtnlmpejgiakepaaDoor
namespace Go.Proofs.YtnlmpejgiakepaaDoor
open Go.ChangeShapes Go.WideShapes Go.ChangeAt Go.RowKit
set_option linter.unusedVariables false
namespace RowG
open EvtR (Pt cell_put cell_far)
theorem hid_intro {p : Prop} (h : p) : Hid p := h
section
variable {α : Type} (k : Nat) (cells : α → List Value) (z : α)
/-- The cells of a thing stand at a place. -/
def AtG (w : World) (b o : Nat) (x : α) : Prop := ∀ j, j < k → w.cell? ⟨b, o + j, none⟩ = (cells x)[j]?
/-- The row holds these things. -/
def Rws (ao : Option Addr) (xs : List α) (w : World) : Prop := xs.length = 0 ∨ ∃ b off, ao = some ⟨b, off, none⟩ ∧ b < w.heap.size ∧ ∀ j, j < xs.length → AtG k cells w b (off + j * k) (xs.getD j z)
/-- The cell that stands at a place of a row of things. -/
def cellAt (xs : List α) (o : Nat) : Option Value := (cells (xs.getD (o / k) z))[o % k]?
/-- The first cells are written. -/
def Wr (f : Nat → Option Value) (j g : Nat) (w : World) : Prop := ∀ o, o < j → w.cell? ⟨g, o, none⟩ = f o
end
section
variable {α : Type} {k : Nat} {cells : α → List Value} {z : α}
theorem AtG.below {w w' : World} {b o : Nat} {x : α} (h : AtG k cells w b o x) (hl : b < w.heap.size) (hb : Below w.heap.size w w') : AtG k cells w' b o x :=
  fun j hj => (hb.cell (p := ⟨b, o + j, none⟩) hl).trans (h j hj)
theorem Rws.below {ao : Option Addr} {xs : List α} {w w' : World} (h : Rws k cells z ao xs w) (hb : Below w.heap.size w w') : Rws k cells z ao xs w' := by
  rcases h with h0 | ⟨b, off, rfl, hlt, hc⟩
  · exact .inl h0
  · exact .inr ⟨b, off, rfl, by have := hb.size; omega, fun j hj => (hc j hj).below hlt hb⟩
theorem Rws.grown {ao : Option Addr} {xs : List α} {w w' : World} {row : Option Nat} (h : Rws k cells z ao xs w) (hg : w.grownBy w' row) (hne : xs.length = 0 ∨ ∀ b off, ao = some ⟨b, off, none⟩ → some b ≠ row) : Rws k cells z ao xs w' := by
  rcases h with h0 | ⟨b, off, rfl, hlt, hc⟩
  · exact .inl h0
  · rcases hne with h0 | hne
    · exact .inl h0
    have e := hg.block b hlt (hne b off rfl)
    exact .inr ⟨b, off, rfl, by have := hg.size; omega, fun j hj i hi => (World.cell?_of_block (a := ⟨b, off + j * k + i, none⟩) e).trans (hc j hj i hi)⟩
theorem Rws.at {ao : Option Addr} {xs : List α} {w : World} (h : Rws k cells z ao xs w) (j : Nat) (hj : j < xs.length) : ∃ b off, ao = some ⟨b, off, none⟩ ∧ b < w.heap.size ∧ AtG k cells w b (off + j * k) (xs.getD j z) := by
  rcases h with h0 | ⟨b, off, rfl, hlt, hc⟩
  · omega
  · exact ⟨b, off, rfl, hlt, hc j hj⟩
theorem rws_nil (ao : Option Addr) (w : World) : Rws k cells z ao [] w := .inl rfl
theorem getD_mem (xs : List α) (j : Nat) (h : j < xs.length) : xs.getD j z ∈ xs := by
  have : xs.getD j z = xs[j] := by simp [List.getD, h]
  rw [this]; exact List.getElem_mem h
theorem take_more (xs : List α) (j : Nat) (h : j < xs.length) : xs.take (j + 1) = xs.take j ++ [xs.getD j z] := by
  rw [List.take_add_one, List.getElem?_eq_getElem h]
  simp [List.getD, h]
theorem Wr.below {f : Nat → Option Value} {j g m : Nat} {w w' : World} (h : Wr f j g w) (hp : Pt g m w) (hb : Below w.heap.size w w') : Wr f j g w' :=
  fun o ho => (hb.cell (p := ⟨g, o, none⟩) hp.lt).trans (h o ho)
theorem Wr.more {f : Nat → Option Value} {j g m : Nat} {w : World} (h : Wr f j g w) (hp : Pt g m w) (hj : j < m) (v : Value) (hv : f j = some v) : Wr f (j + 1) g (w.setCell ⟨g, j, none⟩ v) := by
  intro o ho
  by_cases e : j = o
  · subst e; rw [cell_put hp j hj v, hv]
  · rw [cell_far j o e v]; exact h o (by omega)
theorem Wr.at {xs : List α} {n g : Nat} {w : World} (h : Wr (cellAt k cells z xs) (n * k) g w) (i : Nat) (hi : i < n) (x : Nat) (hx : x < k) : w.cell? ⟨g, i * k + x, none⟩ = (cells (xs.getD i z))[x]? := by
  have hlt : i * k + x < n * k := by
    have : (i + 1) * k ≤ n * k := Nat.mul_le_mul_right _ hi
    rw [Nat.add_mul, Nat.one_mul] at this
    omega
  rw [h _ hlt]
  unfold cellAt
  rw [show i * k + x = x + k * i by rw [Nat.mul_comm]; omega, Nat.add_mul_div_left _ _ (by omega), Nat.div_eq_of_lt hx, Nat.zero_add, Nat.add_mul_mod_self_left, Nat.mod_eq_of_lt hx]
theorem Wr.rws {xs : List α} {g : Nat} {w : World} (h : Wr (cellAt k cells z xs) (xs.length * k) g w) (hl : g < w.heap.size) : Rws k cells z (some ⟨g, 0, none⟩) xs w :=
  .inr ⟨g, 0, rfl, hl, fun j hj i hi => by rw [Nat.zero_add]; exact h.at j hj i hi⟩
theorem cellAt_of {xs : List α} (i x : Nat) (hx : x < k) : cellAt k cells z xs (i * k + x) = (cells (xs.getD i z))[x]? := by
  unfold cellAt
  rw [show i * k + x = x + k * i by rw [Nat.mul_comm]; omega, Nat.add_mul_div_left _ _ (by omega), Nat.div_eq_of_lt hx, Nat.zero_add, Nat.add_mul_mod_self_left, Nat.mod_eq_of_lt hx]
/-- The cells of a list of things. -/
def cellsAll (cells : α → List Value) (xs : List α) : List Value := xs.flatMap cells
theorem cellsAll_app (xs : List α) (x : α) : cellsAll cells (xs ++ [x]) = cellsAll cells xs ++ cells x := by simp [cellsAll]
theorem cellsAll_len (hk : ∀ x, (cells x).length = k) (xs : List α) : (cellsAll cells xs).length = xs.length * k := by
  induction xs with
  | nil => simp [cellsAll]
  | cons x xs ih => simp only [cellsAll, List.flatMap_cons, List.length_append, hk, List.length_cons] at *; rw [ih, Nat.add_mul]; omega
theorem cellsAll_get (hk : ∀ x, (cells x).length = k) (xs : List α) (i x : Nat) (hi : i < xs.length) (hx : x < k) : (cellsAll cells xs)[i * k + x]? = (cells (xs.getD i z))[x]? := by
  induction xs generalizing i with
  | nil => simp at hi
  | cons a xs ih =>
    simp only [cellsAll, List.flatMap_cons]
    cases i with
    | zero =>
      rw [Nat.zero_mul, Nat.zero_add, List.getElem?_append_left (by rw [hk]; exact hx)]
      rfl
    | succ i =>
      rw [List.getElem?_append_right (by rw [hk, Nat.add_mul]; omega), hk, show (i + 1) * k + x - k = i * k + x by rw [Nat.add_mul]; omega]
      simp only [List.length_cons] at hi
      exact ih i (by omega)
/-- A list that a call has made. -/
structure MadeG (k : Nat) (cells : α → List Value) (z : α) (base : Nat) (ao : Option Addr) (xs : List α) (w : World) : Prop where
  rws : Rws k cells z ao xs w
  own : xs.length = 0 ∨ ∃ g, ao = some ⟨g, 0, none⟩ ∧ base ≤ g ∧ Pt g (xs.length * k) w
theorem made_nil (base : Nat) (ao : Option Addr) (w : World) : MadeG k cells z base ao [] w := ⟨.inl rfl, .inl rfl⟩
theorem MadeG.below {base : Nat} {ao : Option Addr} {xs : List α} {w w' : World} (h : MadeG k cells z base ao xs w) (hb : Below w.heap.size w w') : MadeG k cells z base ao xs w' :=
  ⟨h.rws.below hb, h.own.imp id (fun ⟨g, h1, h2, h3⟩ => ⟨g, h1, h2, h3.below hb⟩)⟩
theorem MadeG.low {base base' : Nat} {ao : Option Addr} {xs : List α} {w : World} (h : MadeG k cells z base ao xs w) (hb : base' ≤ base) : MadeG k cells z base' ao xs w :=
  ⟨h.rws, h.own.imp id (fun ⟨g, h1, h2, h3⟩ => ⟨g, h1, by omega, h3⟩)⟩
theorem own_made (hk : ∀ x, (cells x).length = k) {w : World} {base T : Nat} {v : Value} {xs : List α} (h : w.ownsRow base T k v xs.length (cellsAll cells xs)) : ∃ ao cap, v = .slice ao xs.length cap ∧ MadeG k cells z base ao xs w := by
  rcases h.2 with ⟨h0, h1⟩ | ⟨g, cap, cur, hv, hg, hh, hc, _, hz, hcur⟩
  · obtain rfl : xs = [] := List.length_eq_zero_iff.1 h1
    exact ⟨none, 0, h0, made_nil _ _ _⟩
  · have hm : xs.length * k ≤ cur.size := by rw [hz]; exact Nat.mul_le_mul_right _ hc
    have hl := (h.lt g (by rw [hv]; rfl)).2
    refine ⟨_, _, hv, .inr ⟨g, 0, rfl, hl, fun j hj i hi => ?_⟩, .inr ⟨g, rfl, hg, hl, fun o ho => ?_, fun o ho => ?_⟩⟩
    · rw [Nat.zero_add, ← cellsAll_get hk xs j i hj hi, ← hcur]
      have hlt : j * k + i < xs.length * k := by
        have : (j + 1) * k ≤ xs.length * k := Nat.mul_le_mul_right _ hj
        rw [Nat.add_mul, Nat.one_mul] at this
        omega
      rw [List.getElem?_take, if_pos hlt]
      simp [World.cell?, hh]
    · have : o < cur.size := by omega
      refine ⟨cur[o], ?_⟩
      simp [World.cell?, hh, this]
    · simp [World.frozen?, hh]
end
theorem own_below {w w' : World} {base e size n : Nat} {v : Value} {xs : List Value} (h : w.ownsRow base e size v n xs) (hb : Below w.heap.size w w') : w'.ownsRow base e size v n xs := by
  refine h.kept (row := none) ⟨hb.os, hb.tape, hb.output, hb.size, fun k hk _ => hb.block k hk⟩ ?_
  rcases hob : v.ownBlock with _ | b
  · exact .inl rfl
  · exact .inr (by simp)
theorem grown_set (w : World) (b o : Nat) (v : Value) : w.grownBy (w.setCell ⟨b, o, none⟩ v) (some b) := by
  refine ⟨rfl, rfl, rfl, by simp, fun k hk hne => ?_⟩
  simp only [World.setCell]
  rw [Array.getElem?_modify, if_neg (fun e => hne (by rw [e]))]
theorem own_set {w : World} {base e size n : Nat} {v : Value} {xs : List Value} (h : w.ownsRow base e size v n xs) (g o : Nat) (u : Value) (hg : ∀ b, v.ownBlock = some b → b ≠ g) : (w.setCell ⟨g, o, none⟩ u).ownsRow base e size v n xs := by
  refine h.kept (grown_set w g o u) ?_
  rcases hob : v.ownBlock with _ | b
  · exact .inl rfl
  · exact .inr (fun e => hg b hob (by simpa using e))
end RowG
end Go.Proofs.YtnlmpejgiakepaaDoor
namespace Go.Proofs.YtnlmpejgiakepaaDoor
namespace DateM
/-- Has the year a leap day? -/
def leapB (y : Int) : Bool := decide (y % 4 = 0 ∧ (y % 100 ≠ 0 ∨ y % 400 = 0))
/-- How many days a year has. -/
def yd (y : Int) : Int := if leapB y = true then 366 else 365
/-- How many days a month has, of a year and month within their limits. -/
def md (y m : Int) : Int := if m = 2 then (if leapB y = true then 29 else 28) else if m = 4 ∨ m = 6 ∨ m = 9 ∨ m = 11 then 30 else 31
/-- The same, 0 beyond the limits. -/
def mdays (y m : Int) : Int := if 1970 ≤ y ∧ y ≤ 2200 ∧ 1 ≤ m ∧ m ≤ 12 then md y m else 0
/-- The days of the years ahead. -/
def ys : Nat → Int
  | 0 => 0
  | k + 1 => ys k + yd (1970 + (k : Int))
/-- The days of the months ahead. -/
def ms (y : Int) : Nat → Int
  | 0 => 0
  | k + 1 => ms y k + md y ((k : Int) + 1)
theorem yd_bd (y : Int) : 365 ≤ yd y ∧ yd y ≤ 366 := by unfold yd; split <;> omega
theorem md_bd (y m : Int) : 28 ≤ md y m ∧ md y m ≤ 31 := by unfold md; split <;> (try split) <;> (try split) <;> omega
theorem mdays_bd (y m : Int) : 0 ≤ mdays y m ∧ mdays y m ≤ 31 := by unfold mdays; have := md_bd y m; split <;> omega
theorem ys_succ (k : Nat) : ys (k + 1) = ys k + yd (1970 + (k : Int)) := rfl
theorem ms_succ (y : Int) (k : Nat) : ms y (k + 1) = ms y k + md y ((k : Int) + 1) := rfl
theorem ys_bd (k : Nat) : 365 * (k : Int) ≤ ys k ∧ ys k ≤ 366 * (k : Int) := by
  induction k with
  | zero => simp [ys]
  | succ k ih => have := yd_bd (1970 + (k : Int)); rw [ys_succ]; omega
theorem ms_bd (y : Int) (k : Nat) : 28 * (k : Int) ≤ ms y k ∧ ms y k ≤ 31 * (k : Int) := by
  induction k with
  | zero => simp [ms]
  | succ k ih => have := md_bd y ((k : Int) + 1); rw [ms_succ]; omega
theorem ms_all (y : Int) : ms y 12 = yd y := by
  simp only [ms, md, yd]
  cases leapB y <;> decide
theorem ys_mono {j k : Nat} (h : j ≤ k) : ys j + 365 * ((k : Int) - j) ≤ ys k := by
  induction k with
  | zero => obtain rfl : j = 0 := by omega
            simp
  | succ k ih =>
    by_cases e : j = k + 1
    · subst e; simp
    · have := ih (by omega)
      have := yd_bd (1970 + (k : Int))
      rw [ys_succ]; omega
theorem ms_mono (y : Int) {j k : Nat} (h : j ≤ k) : ms y j + 28 * ((k : Int) - j) ≤ ms y k := by
  induction k with
  | zero => obtain rfl : j = 0 := by omega
            simp
  | succ k ih =>
    by_cases e : j = k + 1
    · subst e; simp
    · have := ih (by omega)
      have := md_bd y ((k : Int) + 1)
      rw [ms_succ]; omega
/-- Each day lies in one year. -/
theorem year_is (d : Int) (h : 0 ≤ d) : ∃ k : Nat, ys k ≤ d ∧ d < ys (k + 1) := by
  obtain ⟨n, rfl⟩ : ∃ n : Nat, d = n := ⟨d.toNat, by omega⟩
  induction n with
  | zero => exact ⟨0, by simp [ys], by have := ys_bd 1; simp at this ⊢; omega⟩
  | succ n ih =>
    obtain ⟨k, h1, h2⟩ := ih (by omega)
    by_cases e : ((n + 1 : Nat) : Int) < ys (k + 1)
    · exact ⟨k, by omega, e⟩
    · refine ⟨k + 1, by omega, ?_⟩
      have := yd_bd (1970 + ((k + 1 : Nat) : Int))
      rw [ys_succ (k + 1)]; omega
/-- Each day of a year lies in one month. -/
theorem month_is (y d : Int) (h : 0 ≤ d) (h2 : d < yd y) : ∃ k : Nat, k < 12 ∧ ms y k ≤ d ∧ d < ms y (k + 1) := by
  have key : ∀ j : Nat, j ≤ 12 → ms y j ≤ d ∨ ∃ k : Nat, k < 12 ∧ ms y k ≤ d ∧ d < ms y (k + 1) := by
    intro j
    induction j with
    | zero => intro _; left; simp [ms]; exact h
    | succ j ih =>
      intro hj
      rcases ih (by omega) with h1 | h1
      · by_cases e : d < ms y (j + 1)
        · exact .inr ⟨j, by omega, h1, e⟩
        · exact .inl (by omega)
      · exact .inr h1
  rcases key 12 (Nat.le_refl _) with h1 | h1
  · rw [ms_all] at h1; omega
  · exact h1
theorem year_one {d : Int} {j k : Nat} (h1 : ys j ≤ d) (h2 : d < ys (k + 1)) : j ≤ k := by
  apply Nat.le_of_not_lt
  intro h
  have := ys_mono (show k + 1 ≤ j from h)
  omega
theorem month_one {y d : Int} {j k : Nat} (h1 : ms y j ≤ d) (h2 : d < ms y (k + 1)) : j ≤ k := by
  apply Nat.le_of_not_lt
  intro h
  have := ms_mono y (show k + 1 ≤ j from h)
  omega
/-- Is it a right date? -/
def rightB (y m d : Int) : Bool := decide (1 ≤ d ∧ d ≤ mdays y m)
theorem right_iff (y m d : Int) : rightB y m d = true ↔ 1970 ≤ y ∧ y ≤ 2200 ∧ 1 ≤ m ∧ m ≤ 12 ∧ 1 ≤ d ∧ d ≤ md y m := by
  unfold rightB mdays
  simp only [decide_eq_true_eq]
  split <;> omega
/-- A right date's day. -/
def num (y m d : Int) : Int := d - 1 + ys (y - 1970).toNat + ms y (m - 1).toNat
end DateM
end Go.Proofs.YtnlmpejgiakepaaDoor
namespace Go.Proofs.YtnlmpejgiakepaaDoor
namespace DateM
/-- The first day of a month. -/
def fd (k : Nat) : Int := ys (k / 12) + ms (1970 + ((k / 12 : Nat) : Int)) (k % 12)
theorem fd_num (k : Nat) : num (1970 + (k : Int) / 12) ((k : Int) % 12 + 1) 1 = fd k := by
  unfold num fd
  rw [show (1970 + (k : Int) / 12 - 1970).toNat = k / 12 by omega, show ((k : Int) % 12 + 1 - 1).toNat = k % 12 by omega, show ((k / 12 : Nat) : Int) = (k : Int) / 12 by omega]
  omega
theorem fd_succ (k : Nat) : fd (k + 1) = fd k + md (1970 + ((k / 12 : Nat) : Int)) (((k % 12 : Nat) : Int) + 1) := by
  unfold fd
  by_cases h : k % 12 = 11
  · rw [show (k + 1) / 12 = k / 12 + 1 by omega, show (k + 1) % 12 = 0 by omega, ys_succ, ← ms_all, h, ms_succ]
    simp only [ms]
    omega
  · rw [show (k + 1) / 12 = k / 12 by omega, show (k + 1) % 12 = k % 12 + 1 by omega, ms_succ]
    omega
theorem fd_step (k : Nat) : fd k + 28 ≤ fd (k + 1) ∧ fd (k + 1) ≤ fd k + 31 := by
  rw [fd_succ]
  have := md_bd (1970 + ((k / 12 : Nat) : Int)) (((k % 12 : Nat) : Int) + 1)
  omega
theorem fd_zero : fd 0 = 0 := by simp [fd, ys, ms]
theorem fd_mono {j k : Nat} (h : j ≤ k) : fd j + 28 * ((k : Int) - j) ≤ fd k := by
  induction k with
  | zero => obtain rfl : j = 0 := by omega
            simp
  | succ k ih =>
    by_cases e : j = k + 1
    · subst e; simp
    · have := ih (by omega)
      have := fd_step k
      omega
theorem fd_bd (k : Nat) : 0 ≤ fd k ∧ fd k ≤ 31 * (k : Int) := by
  induction k with
  | zero => simp [fd_zero]
  | succ k ih => have := fd_step k; omega
theorem fd_one {d : Int} {j k : Nat} (h1 : fd j ≤ d) (h2 : d < fd (k + 1)) : j ≤ k := by
  apply Nat.le_of_not_lt
  intro h
  have := fd_mono (show k + 1 ≤ j from h)
  omega
/-- A right date lies in its month. -/
theorem num_fd (y m d : Int) (h : rightB y m d = true) : ∃ k : Nat, k ≤ 2771 ∧ 12 * (y - 1970) + (m - 1) = (k : Int) ∧ fd k ≤ num y m d ∧ num y m d < fd (k + 1) := by
  obtain ⟨y1, y2, m1, m2, d1, d2⟩ := (right_iff y m d).1 h
  refine ⟨(12 * (y - 1970) + (m - 1)).toNat, by omega, by omega, ?_⟩
  have e1 : (12 * (y - 1970) + (m - 1)).toNat / 12 = (y - 1970).toNat := by omega
  have e2 : (12 * (y - 1970) + (m - 1)).toNat % 12 = (m - 1).toNat := by omega
  rw [fd_succ]
  unfold fd num
  rw [e1, e2, show 1970 + (((y - 1970).toNat : Nat) : Int) = y by omega, show (((m - 1).toNat : Nat) : Int) + 1 = m by omega]
  omega
theorem ys_nat : ∀ k : Nat, k ≤ 231 → ys k = ((List.range k).foldl (fun (a : Int) (j : Nat) => a + yd (1970 + (j : Int))) 0) := by
  intro k _
  induction k with
  | zero => rfl
  | succ k ih => rw [List.range_succ, List.foldl_append, ← ih (by omega)]; rfl
theorem ys_231 : 84028 ≤ ys 231 := by rw [ys_nat 231 (by omega)]; decide +kernel
theorem fd_2760 : fd 2760 = 84006 := by
  unfold fd
  show ys 230 + ms _ 0 = _
  rw [ys_nat 230 (by omega)]
  decide +kernel
/-- The first day's date is right. -/
theorem right_first (k : Nat) (h : k ≤ 2760) : rightB (1970 + (k : Int) / 12) ((k : Int) % 12 + 1) 1 = true := by
  have := md_bd (1970 + (k : Int) / 12) ((k : Int) % 12 + 1)
  exact (right_iff _ _ _).2 ⟨by omega, by omega, by omega, by omega, by omega, by omega⟩
end DateM
end Go.Proofs.YtnlmpejgiakepaaDoor
namespace Go.Proofs.YtnlmpejgiakepaaDoor
open Go.ChangeShapes Go.WideShapes Go.ChangeAt Go.RowKit
open Go.ChangeMaps (open_string shut_string)
namespace NameR
/-- May this byte stand at this place of a name? -/
def okAt (i : Nat) (c : Int) : Bool := decide ((97 ≤ c ∧ c ≤ 122) ∨ (i ≠ 0 ∧ ((48 ≤ c ∧ c ≤ 57) ∨ c = 95)))
def upTo (s : ByteArray) (k : Nat) : Prop := ∀ i (h : i < s.size), i < k → okAt i (s[i].toNat : Int) = true
def upToDec (s : ByteArray) (k : Nat) : Decidable (upTo s k) := inferInstanceAs (Decidable (∀ i (h : i < s.size), i < k → okAt i (s[i].toNat : Int) = true))
def nameB (s : ByteArray) : Bool := @decide (1 ≤ s.size ∧ s.size ≤ 20 ∧ upTo s s.size) (@instDecidableAnd _ _ _ (@instDecidableAnd _ _ _ (upToDec s s.size)))
theorem name_size {s : ByteArray} (h : s.size < 1 ∨ 20 < s.size) : nameB s = false := by
  unfold nameB; simp; intro h1 h2; omega
theorem name_no {s : ByteArray} {k : Nat} (h : k < s.size) (hb : okAt k (s[k].toNat : Int) = false) : nameB s = false := by
  unfold nameB; simp; intro _ _ hu; have := hu k h h; simp [hb] at this
theorem name_yes {s : ByteArray} (h1 : 1 ≤ s.size) (h2 : s.size ≤ 20) (hu : upTo s s.size) : nameB s = true := by
  unfold nameB; simp; exact ⟨h1, h2, hu⟩
theorem upTo_zero (s : ByteArray) : upTo s 0 := fun _ _ h => absurd h (by omega)
theorem upTo_succ {s : ByteArray} {k : Nat} (hu : upTo s k) (h : k < s.size) (hb : okAt k (s[k].toNat : Int) = true) : upTo s (k + 1) := by
  intro i hi hk
  by_cases e : i = k
  · subst e; exact hb
  · exact hu i hi (by omega)

set_option maxHeartbeats 2000000 in
theorem spec_any (s : ByteArray) (w : World) (hs : s.size ≤ 1048576) :
    Calls Tryd.prog 41 #[.string s] w fun e w' => e = .returned (.bool (nameB s)) ∧ w' = w := by
  by_cases h1 : s.size < 1
  · have hn := name_size (s := s) (.inl h1)
    rw [hn]
    go_enter Tryd.func41, Tryd.ntmps41
    go_wp2
    go_ret
    exact ⟨rfl, rfl⟩
  by_cases h2 : 20 < s.size
  · have hn := name_size (s := s) (.inr h2)
    rw [hn]
    go_enter Tryd.func41, Tryd.ntmps41
    go_wp2
    go_ret
    exact ⟨rfl, rfl⟩
  go_enter Tryd.func41, Tryd.ntmps41
  go_wp2
  go_loop [3, 4] (fun i _ => ∃ k : Nat, k ≤ s.size ∧ i = .int .i64 k ∧ upTo s k) (fun i _ => s.size - (intOf i).toNat)
  case atStart => exact ⟨0, Nat.zero_le _, rfl, upTo_zero s⟩
  case round =>
    obtain ⟨k, hk, rfl, hu⟩ := hrel
    by_cases hlt : k < s.size
    · have hno := name_no (s := s) hlt
      have hyes := upTo_succ hu hlt
      have HN : Hid (okAt k (s[k].toNat : Int) = false → nameB s = false) := hno
      have HY : Hid (okAt k (s[k].toNat : Int) = true → upTo s (k + 1)) := hyes
      clear hno hyes hu
      by_cases hk0 : k = 0
      · subst hk0
        rcases (show ((s[0].toNat : Int) < 48) ∨ (48 ≤ (s[0].toNat : Int) ∧ (s[0].toNat : Int) ≤ 57) ∨ (57 < (s[0].toNat : Int) ∧ (s[0].toNat : Int) < 95) ∨ (95 ≤ (s[0].toNat : Int) ∧ (s[0].toNat : Int) ≤ 95) ∨ (95 < (s[0].toNat : Int) ∧ (s[0].toNat : Int) < 97) ∨ (97 ≤ (s[0].toNat : Int) ∧ (s[0].toNat : Int) ≤ 122) ∨ 122 < (s[0].toNat : Int) from by omega) with hc | hc | hc | hc | hc | hc | hc
        all_goals
          (first | have a0 : (97 : Int) ≤ (s[0].toNat : Int) := by omega | have a0 : ¬ (97 : Int) ≤ (s[0].toNat : Int) := by omega)
          (first | have a1 : (s[0].toNat : Int) ≤ 122 := by omega | have a1 : ¬ (s[0].toNat : Int) ≤ 122 := by omega)
          (first | have a2 : (48 : Int) ≤ (s[0].toNat : Int) := by omega | have a2 : ¬ (48 : Int) ≤ (s[0].toNat : Int) := by omega)
          (first | have a3 : (s[0].toNat : Int) ≤ 57 := by omega | have a3 : ¬ (s[0].toNat : Int) ≤ 57 := by omega)
          (first | have a5 : ((s[0].toNat : Int) != 95) = true := by simp; omega | have a5 : ((s[0].toNat : Int) != 95) = false := by simp; omega)
          (first | have a6 : ((s[0].toNat : Int) == 95) = true := by simp; omega | have a6 : ((s[0].toNat : Int) == 95) = false := by simp; omega)
          go_wp2
          first
            | (go_ret; exact ⟨ret_bool (HN.out (by unfold okAt; simp; omega)).symm, rfl⟩)
            | (go_round
               case rel => exact ⟨1, by omega, by go_num, HY.out (by unfold okAt; simp; omega)⟩
               case measure => simp [intOf]; omega)
      · rcases (show ((s[k].toNat : Int) < 48) ∨ (48 ≤ (s[k].toNat : Int) ∧ (s[k].toNat : Int) ≤ 57) ∨ (57 < (s[k].toNat : Int) ∧ (s[k].toNat : Int) < 95) ∨ (95 ≤ (s[k].toNat : Int) ∧ (s[k].toNat : Int) ≤ 95) ∨ (95 < (s[k].toNat : Int) ∧ (s[k].toNat : Int) < 97) ∨ (97 ≤ (s[k].toNat : Int) ∧ (s[k].toNat : Int) ≤ 122) ∨ 122 < (s[k].toNat : Int) from by omega) with hc | hc | hc | hc | hc | hc | hc
        all_goals
          (first | have a0 : (97 : Int) ≤ (s[k].toNat : Int) := by omega | have a0 : ¬ (97 : Int) ≤ (s[k].toNat : Int) := by omega)
          (first | have a1 : (s[k].toNat : Int) ≤ 122 := by omega | have a1 : ¬ (s[k].toNat : Int) ≤ 122 := by omega)
          (first | have a2 : (48 : Int) ≤ (s[k].toNat : Int) := by omega | have a2 : ¬ (48 : Int) ≤ (s[k].toNat : Int) := by omega)
          (first | have a3 : (s[k].toNat : Int) ≤ 57 := by omega | have a3 : ¬ (s[k].toNat : Int) ≤ 57 := by omega)
          (first | have a5 : ((s[k].toNat : Int) != 95) = true := by simp; omega | have a5 : ((s[k].toNat : Int) != 95) = false := by simp; omega)
          (first | have a6 : ((s[k].toNat : Int) == 95) = true := by simp; omega | have a6 : ((s[k].toNat : Int) == 95) = false := by simp; omega)
          have a7 : ((k : Int) == 0) = false := by simp; omega
          go_wp2
          first
            | (go_ret; exact ⟨ret_bool (HN.out (by unfold okAt; simp; omega)).symm, rfl⟩)
            | (go_round
               case rel => exact ⟨k + 1, by omega, by go_num, HY.out (by unfold okAt; simp; omega)⟩
               case measure => simp [intOf]; omega)
    · go_wp2
      go_ret
      have : k = s.size := by omega
      subst this
      exact ⟨ret_bool (name_yes (by omega) (by omega) hu).symm, rfl⟩

set_option maxHeartbeats 2000000 in
theorem impl_any (s : ByteArray) (w : World) (hs : s.size ≤ 1048576) :
    Calls Tryd.prog 83 #[.string s] w fun e w' => e = .returned (.bool (nameB s)) ∧ w' = w := by
  by_cases h1 : s.size < 1
  · have hn := name_size (s := s) (.inl h1)
    rw [hn]
    go_enter Tryd.func83, Tryd.ntmps83
    go_wp2
    go_ret
    exact ⟨rfl, rfl⟩
  by_cases h2 : 20 < s.size
  · have hn := name_size (s := s) (.inr h2)
    rw [hn]
    go_enter Tryd.func83, Tryd.ntmps83
    go_wp2
    go_ret
    exact ⟨rfl, rfl⟩
  go_enter Tryd.func83, Tryd.ntmps83
  go_wp2
  go_loop [3, 4, 5] (fun i _ _ => ∃ k : Nat, k ≤ s.size ∧ i = .int .i64 k ∧ upTo s k) (fun i _ _ => s.size - (intOf i).toNat)
  case atStart => exact ⟨0, Nat.zero_le _, rfl, upTo_zero s⟩
  case round =>
    obtain ⟨k, hk, rfl, hu⟩ := hrel
    by_cases hlt : k < s.size
    · have hno := name_no (s := s) hlt
      have hyes := upTo_succ hu hlt
      have HN : Hid (okAt k (s[k].toNat : Int) = false → nameB s = false) := hno
      have HY : Hid (okAt k (s[k].toNat : Int) = true → upTo s (k + 1)) := hyes
      clear hno hyes hu
      by_cases hk0 : k = 0
      · subst hk0
        rcases (show ((s[0].toNat : Int) < 48) ∨ (48 ≤ (s[0].toNat : Int) ∧ (s[0].toNat : Int) ≤ 57) ∨ (57 < (s[0].toNat : Int) ∧ (s[0].toNat : Int) < 95) ∨ (95 ≤ (s[0].toNat : Int) ∧ (s[0].toNat : Int) ≤ 95) ∨ (95 < (s[0].toNat : Int) ∧ (s[0].toNat : Int) < 97) ∨ (97 ≤ (s[0].toNat : Int) ∧ (s[0].toNat : Int) ≤ 122) ∨ 122 < (s[0].toNat : Int) from by omega) with hc | hc | hc | hc | hc | hc | hc
        all_goals
          (first | have a0 : (97 : Int) ≤ (s[0].toNat : Int) := by omega | have a0 : ¬ (97 : Int) ≤ (s[0].toNat : Int) := by omega)
          (first | have a1 : (s[0].toNat : Int) ≤ 122 := by omega | have a1 : ¬ (s[0].toNat : Int) ≤ 122 := by omega)
          (first | have a2 : (48 : Int) ≤ (s[0].toNat : Int) := by omega | have a2 : ¬ (48 : Int) ≤ (s[0].toNat : Int) := by omega)
          (first | have a3 : (s[0].toNat : Int) ≤ 57 := by omega | have a3 : ¬ (s[0].toNat : Int) ≤ 57 := by omega)
          (first | have a5 : ((s[0].toNat : Int) != 95) = true := by simp; omega | have a5 : ((s[0].toNat : Int) != 95) = false := by simp; omega)
          (first | have a6 : ((s[0].toNat : Int) == 95) = true := by simp; omega | have a6 : ((s[0].toNat : Int) == 95) = false := by simp; omega)
          go_wp2
          first
            | (go_ret; exact ⟨ret_bool (HN.out (by unfold okAt; simp; omega)).symm, rfl⟩)
            | (go_round
               case rel => exact ⟨1, by omega, by go_num, HY.out (by unfold okAt; simp; omega)⟩
               case measure => simp [intOf]; omega)
      · rcases (show ((s[k].toNat : Int) < 48) ∨ (48 ≤ (s[k].toNat : Int) ∧ (s[k].toNat : Int) ≤ 57) ∨ (57 < (s[k].toNat : Int) ∧ (s[k].toNat : Int) < 95) ∨ (95 ≤ (s[k].toNat : Int) ∧ (s[k].toNat : Int) ≤ 95) ∨ (95 < (s[k].toNat : Int) ∧ (s[k].toNat : Int) < 97) ∨ (97 ≤ (s[k].toNat : Int) ∧ (s[k].toNat : Int) ≤ 122) ∨ 122 < (s[k].toNat : Int) from by omega) with hc | hc | hc | hc | hc | hc | hc
        all_goals
          (first | have a0 : (97 : Int) ≤ (s[k].toNat : Int) := by omega | have a0 : ¬ (97 : Int) ≤ (s[k].toNat : Int) := by omega)
          (first | have a1 : (s[k].toNat : Int) ≤ 122 := by omega | have a1 : ¬ (s[k].toNat : Int) ≤ 122 := by omega)
          (first | have a2 : (48 : Int) ≤ (s[k].toNat : Int) := by omega | have a2 : ¬ (48 : Int) ≤ (s[k].toNat : Int) := by omega)
          (first | have a3 : (s[k].toNat : Int) ≤ 57 := by omega | have a3 : ¬ (s[k].toNat : Int) ≤ 57 := by omega)
          (first | have a5 : ((s[k].toNat : Int) != 95) = true := by simp; omega | have a5 : ((s[k].toNat : Int) != 95) = false := by simp; omega)
          (first | have a6 : ((s[k].toNat : Int) == 95) = true := by simp; omega | have a6 : ((s[k].toNat : Int) == 95) = false := by simp; omega)
          have a7 : ((k : Int) == 0) = false := by simp; omega
          go_wp2
          first
            | (go_ret; exact ⟨ret_bool (HN.out (by unfold okAt; simp; omega)).symm, rfl⟩)
            | (go_round
               case rel => exact ⟨k + 1, by omega, by go_num, HY.out (by unfold okAt; simp; omega)⟩
               case measure => simp [intOf]; omega)
    · go_wp2
      go_ret
      have : k = s.size := by omega
      subst this
      exact ⟨ret_bool (name_yes (by omega) (by omega) hu).symm, rfl⟩
end NameR
end Go.Proofs.YtnlmpejgiakepaaDoor
namespace Go.Proofs.YtnlmpejgiakepaaDoor
open Go.ChangeShapes Go.WideShapes Go.ChangeAt Go.RowKit
set_option linter.unusedVariables false
namespace EvtR
open NameR WordR
/-- An event, as a value. -/
def ev (i a m : ByteArray) (n k : Int) (t : ByteArray) : Value := .agg #[.string i, .string a, .string m, .int .i64 n, .int .i64 k, .string t]
def tagB (s : ByteArray) : Bool := decide (s.size ≤ 10) && printB s
def evB (i a m : ByteArray) (n k : Int) (t : ByteArray) : Bool := idB i && (nameB a && (nameB m && (decide (0 ≤ n ∧ n ≤ 121000000) && (decide (0 ≤ k ∧ k ≤ 1000000000) && tagB t))))
/-- Six that are asked one by one: the first that is false, or none. -/
theorem six (b1 b2 b3 b4 b5 b6 : Bool) : (b1 = false) ∨ (b1 = true ∧ b2 = false) ∨ (b1 = true ∧ b2 = true ∧ b3 = false) ∨ (b1 = true ∧ b2 = true ∧ b3 = true ∧ b4 = false) ∨ (b1 = true ∧ b2 = true ∧ b3 = true ∧ b4 = true ∧ b5 = false) ∨ (b1 = true ∧ b2 = true ∧ b3 = true ∧ b4 = true ∧ b5 = true ∧ b6 = false) ∨ (b1 = true ∧ b2 = true ∧ b3 = true ∧ b4 = true ∧ b5 = true ∧ b6 = true) := by
  cases b1 <;> cases b2 <;> cases b3 <;> cases b4 <;> cases b5 <;> cases b6 <;> simp
theorem impl_tag (s : ByteArray) (w : World) (hs : s.size ≤ 1048576) : Calls Tryd.prog 86 #[.string s] w fun e w' => e = .returned (.bool (tagB s)) ∧ Below w.heap.size w w' := by
  have HP := hid_intro (fun w => impl_printed s w hs)
  unfold tagB
  generalize printB s = p at *
  by_cases h : s.size ≤ 10
  · have h' : (s.size : Int) ≤ 10 := by omega
    go_enter Tryd.func86, Tryd.ntmps86
    go_wp2_with (go_at_call 108; refine (HP.out _).mono ?_; rintro e w1 ⟨rfl, hb1⟩)
    go_ret
    exact ⟨ret_bool (by simp [h]), hb1⟩
  · have h' : ¬ (s.size : Int) ≤ 10 := by omega
    go_enter Tryd.func86, Tryd.ntmps86
    go_wp2_with fail
    go_ret
    exact ⟨ret_bool (by first | (simp; done) | (simp; omega)), Below.refl _ _⟩
set_option maxRecDepth 100000 in
set_option maxHeartbeats 4000000 in
theorem impl_event (i a m : ByteArray) (n k : Int) (t : ByteArray) (h1 : i.size ≤ 1048576) (h2 : a.size ≤ 1048576) (h3 : m.size ≤ 1048576) (h6 : t.size ≤ 1048576) (w : World) :
    Calls Tryd.prog 57 #[ev i a m n k t] w fun e w' => e = .returned (.bool (evB i a m n k t)) ∧ Below w.heap.size w w' := by
  have H1 := hid_intro (fun w => impl_id i w h1)
  have H2 := hid_intro (fun w => NameR.impl_any a w h2)
  have H3 := hid_intro (fun w => NameR.impl_any m w h3)
  have H4 := hid_intro (fun w => minute_any n w)
  have H5 := hid_intro (fun w => within_any k 0 1000000000 w)
  have H6 := hid_intro (fun w => impl_tag t w h6)
  unfold evB ev
  generalize idB i = b1 at *
  generalize nameB a = b2 at *
  generalize nameB m = b3 at *
  generalize decide (0 ≤ n ∧ n ≤ 121000000) = b4 at *
  generalize decide (0 ≤ k ∧ k ≤ 1000000000) = b5 at *
  generalize tagB t = b6 at *
  rcases six b1 b2 b3 b4 b5 b6 with rfl | ⟨rfl, rfl⟩ | ⟨rfl, rfl, rfl⟩ | ⟨rfl, rfl, rfl, rfl⟩ | ⟨rfl, rfl, rfl, rfl, rfl⟩ | ⟨rfl, rfl, rfl, rfl, rfl, rfl⟩ | ⟨rfl, rfl, rfl, rfl, rfl, rfl⟩
  all_goals
    go_enter Tryd.func57, Tryd.ntmps57
    go_wp2_with (first | (go_at_call 82; refine (H1.out _).mono ?_; rintro e w1 ⟨rfl, hb1⟩; obtain ⟨hc, hz⟩ := bcell hb1) | (go_at_call_of 83 (Value.string a); refine (H2.out _).mono ?_; rintro e w' ⟨rfl, rfl⟩) | (go_at_call_of 83 (Value.string m); refine (H3.out _).mono ?_; rintro e w' ⟨rfl, rfl⟩) | (go_at_call 84; refine (H4.out _).mono ?_; rintro e w' ⟨rfl, rfl⟩) | (go_at_call 85; refine (H5.out _).mono ?_; rintro e w' ⟨rfl, rfl⟩) | (go_at_call 86; refine (H6.out _).mono ?_; rintro e w2 ⟨rfl, hb2⟩))
    go_ret
    exact ⟨rfl, by first | exact bel_alloc (hb1.trans (hb2.mono hb1.size)) | exact bel_alloc hb1⟩
set_option maxRecDepth 100000 in
set_option maxHeartbeats 4000000 in
theorem spec_event (i a m : ByteArray) (n k : Int) (t : ByteArray) (h1 : i.size ≤ 1048576) (h2 : a.size ≤ 1048576) (h3 : m.size ≤ 1048576) (h6 : t.size ≤ 1048576) (w : World) :
    Calls Tryd.prog 21 #[ev i a m n k t] w fun e w' => e = .returned (.bool (evB i a m n k t)) ∧ Below w.heap.size w w' := by
  by_cases hi : i.size = 0
  · have he := empty_of i hi
    have hv : evB i a m n k t = false := by
      unfold evB idB
      simp [hi]
    rw [hv]
    unfold ev
    clear hi
    go_enter Tryd.func21, Tryd.ntmps21
    go_wp2_with fail
    go_ret
    exact ⟨rfl, (Below.refl _ _).alloc (Nat.le_refl _) _⟩
  · obtain ⟨he, he2⟩ := full_of i hi
    have H1 := hid_intro (fun w => spec_word i 20 w h1)
    have H6 := hid_intro (fun w => spec_word t 10 w h6)
    have H2 := hid_intro (fun w => NameR.spec_any a w h2)
    have H3 := hid_intro (fun w => NameR.spec_any m w h3)
    have H4 := hid_intro (fun w => sminute_any n w)
    have H5 := hid_intro (fun w => is_any k 0 1000000000 w)
    rw [show (printB i && decide ((i.size : Int) ≤ 20)) = idB i by unfold idB; rw [Bool.and_comm]; congr 1; exact decide_eq_decide.2 (by omega)] at H1
    rw [show (printB t && decide ((t.size : Int) ≤ 10)) = tagB t by unfold tagB; rw [Bool.and_comm]; congr 1; exact decide_eq_decide.2 (by omega)] at H6
    unfold evB ev
    generalize idB i = b1 at *
    generalize nameB a = b2 at *
    generalize nameB m = b3 at *
    generalize decide (0 ≤ n ∧ n ≤ 121000000) = b4 at *
    generalize decide (0 ≤ k ∧ k ≤ 1000000000) = b5 at *
    generalize tagB t = b6 at *
    clear hi
    rcases six b1 b2 b3 b4 b5 b6 with rfl | ⟨rfl, rfl⟩ | ⟨rfl, rfl, rfl⟩ | ⟨rfl, rfl, rfl, rfl⟩ | ⟨rfl, rfl, rfl, rfl, rfl⟩ | ⟨rfl, rfl, rfl, rfl, rfl, rfl⟩ | ⟨rfl, rfl, rfl, rfl, rfl, rfl⟩
    all_goals
      go_enter Tryd.func21, Tryd.ntmps21
      go_wp2_with (first | (go_at_call_of 46 (Value.string i); refine (H1.out _).mono ?_; rintro e w' ⟨rfl, rfl⟩) | (go_at_call_of 41 (Value.string a); refine (H2.out _).mono ?_; rintro e w' ⟨rfl, rfl⟩) | (go_at_call_of 41 (Value.string m); refine (H3.out _).mono ?_; rintro e w' ⟨rfl, rfl⟩) | (go_at_call 47; refine (H4.out _).mono ?_; rintro e w' ⟨rfl, rfl⟩) | (go_at_call 43; refine (H5.out _).mono ?_; rintro e w' ⟨rfl, rfl⟩) | (go_at_call_of 46 (Value.string t); refine (H6.out _).mono ?_; rintro e w' ⟨rfl, rfl⟩))
      go_ret
      exact ⟨by first | rfl | (simp only [he2]; rfl), (Below.refl _ _).alloc (Nat.le_refl _) _⟩
end EvtR
end Go.Proofs.YtnlmpejgiakepaaDoor
namespace Go.Proofs.YtnlmpejgiakepaaDoor
open Go.RowKit
namespace LtR
open Op (bytesLess)
theorem bl_irrefl : ∀ x : List UInt8, bytesLess x x = false
  | [] => rfl
  | a :: x => by
    rw [bytesLess, bl_irrefl x]
    simp
theorem bl_trans : ∀ {x y z : List UInt8}, bytesLess x y = true → bytesLess y z = true → bytesLess x z = true
  | _, [], _, h, _ => by simp [bytesLess] at h
  | _, _ :: _, [], _, h => by simp [bytesLess] at h
  | [], _ :: _, _ :: _, _, _ => rfl
  | a :: x, b :: y, c :: z, h1, h2 => by
    rw [bytesLess] at *
    simp only [Bool.or_eq_true, Bool.and_eq_true, decide_eq_true_eq, beq_iff_eq] at *
    rcases h1 with h1 | ⟨rfl, h1⟩
    · rcases h2 with h2 | ⟨rfl, h2⟩
      · exact .inl (UInt8.lt_trans h1 h2)
      · exact .inl h1
    · rcases h2 with h2 | ⟨rfl, h2⟩
      · exact .inl h2
      · exact .inr ⟨rfl, bl_trans h1 h2⟩
theorem bl_total : ∀ {x y : List UInt8}, bytesLess x y = false → bytesLess y x = false → x = y
  | [], [], _, _ => rfl
  | [], _ :: _, h, _ => by simp [bytesLess] at h
  | _ :: _, [], _, h => by simp [bytesLess] at h
  | a :: x, b :: y, h1, h2 => by
    rw [bytesLess] at *
    simp only [Bool.or_eq_false_iff, Bool.and_eq_false_iff, decide_eq_false_iff_not, beq_eq_false_iff_ne] at *
    have e : a = b := by
      have p1 := h1.1
      have p2 := h2.1
      rw [UInt8.lt_iff_toNat_lt] at p1 p2
      exact UInt8.toNat.inj (by omega)
    subst e
    rw [bl_total (h1.2.resolve_left (fun h => h rfl)) (h2.2.resolve_left (fun h => h rfl))]
/-- One text is ahead of another. -/
def lt (a b : ByteArray) : Bool := bytesLess a.toList b.toList
theorem toList_inj {a b : ByteArray} (h : a.toList = b.toList) : a = b := by
  rw [ByteArray.toList_eq, ByteArray.toList_eq] at h
  exact ByteArray.ext (Array.ext' h)
theorem lt_irrefl (a : ByteArray) : lt a a = false := bl_irrefl _
theorem lt_trans {a b c : ByteArray} (h1 : lt a b = true) (h2 : lt b c = true) : lt a c = true := bl_trans h1 h2
theorem lt_total {a b : ByteArray} (h1 : lt a b = false) (h2 : lt b a = false) : a = b := toList_inj (bl_total h1 h2)
theorem lt_asymm {a b : ByteArray} (h : lt a b = true) : lt b a = false := by
  cases h2 : lt b a
  · rfl
  · have := lt_trans h h2
    rw [lt_irrefl] at this
    cases this
theorem lt_empty {b : ByteArray} (h : 1 ≤ b.size) : lt ⟨#[]⟩ b = true := by
  unfold lt
  have h1 : (⟨#[]⟩ : ByteArray).toList = [] := by rw [ByteArray.toList_eq]
  rw [h1]
  cases hb : b.toList with
  | nil =>
    rw [ByteArray.toList_eq] at hb
    have : b.data.toList.length = 0 := by rw [hb]; rfl
    have h2 : b.data.toList.length = b.size := rfl
    omega
  | cons x l => rfl
end LtR
end Go.Proofs.YtnlmpejgiakepaaDoor
namespace Go.Proofs.YtnlmpejgiakepaaDoor
open Go.ChangeShapes Go.WideShapes Go.ChangeAt Go.RowKit
set_option linter.unusedVariables false
namespace WinR
open RowG LtR DateM
theorem hid_intro {p : Prop} (h : p) : Hid p := h
/-- An hour and what was used in it; a window. -/
structure H where
  h : Int
  s : Int
structure Wd where
  a : ByteArray
  m : ByteArray
  mo : Int
  ev : Int
  su : Int
  mx : Int
  ts : List ByteArray
  hs : List H
def H.zero : H := ⟨0, 0⟩
def H.cells (x : H) : List Value := [.int .i64 x.h, .int .i64 x.s]
def tz : ByteArray := ⟨#[]⟩
def tcells (t : ByteArray) : List Value := [.string t]
theorem H.len (x : H) : x.cells.length = 2 := rfl
theorem t_len (t : ByteArray) : (tcells t).length = 1 := rfl
/-- The row holds these tags, these hours. -/
def Tgs (ao : Option Addr) (ts : List ByteArray) (w : World) : Prop := Rws 1 tcells tz ao ts w
def Hrs (ao : Option Addr) (hs : List H) (w : World) : Prop := Rws 2 H.cells H.zero ao hs w
theorem Tgs.below {ao : Option Addr} {ts : List ByteArray} {w w' : World} (h : Tgs ao ts w) (hb : Below w.heap.size w w') : Tgs ao ts w' := Rws.below h hb
theorem Hrs.below {ao : Option Addr} {hs : List H} {w w' : World} (h : Hrs ao hs w) (hb : Below w.heap.size w w') : Hrs ao hs w' := Rws.below h hb
theorem Tgs.at {ao : Option Addr} {ts : List ByteArray} {w : World} (h : Tgs ao ts w) (j : Nat) (hj : j < ts.length) : ∃ b off, ao = some ⟨b, off, none⟩ ∧ b < w.heap.size ∧ w.cell? ⟨b, off + j, none⟩ = some (.string (ts.getD j tz)) := by
  obtain ⟨b, off, h1, h2, h3⟩ := Rws.at h j hj
  have := h3 0 (by omega)
  rw [Nat.mul_one] at this
  exact ⟨b, off, h1, h2, this⟩
theorem Hrs.at {ao : Option Addr} {hs : List H} {w : World} (h : Hrs ao hs w) (j : Nat) (hj : j < hs.length) : ∃ b off, ao = some ⟨b, off, none⟩ ∧ b < w.heap.size ∧ w.cell? ⟨b, off + j * 2, none⟩ = some (.int .i64 (hs.getD j H.zero).h) ∧ w.cell? ⟨b, off + j * 2 + 1, none⟩ = some (.int .i64 (hs.getD j H.zero).s) := by
  obtain ⟨b, off, h1, h2, h3⟩ := Rws.at h j hj
  exact ⟨b, off, h1, h2, h3 0 (by omega), h3 1 (by omega)⟩
/-- A window's cells. -/
def wcells (x : Wd) (ta : Option Addr) (tc : Nat) (ha : Option Addr) (hc : Nat) : Array Value := #[.string x.a, .string x.m, .int .i64 x.mo, .int .i64 x.ev, .int .i64 x.su, .int .i64 x.mx, .slice ta x.ts.length tc, .slice ha x.hs.length hc]
/-- A window's value. -/
def IsWd (v : Value) (x : Wd) (w : World) : Prop := ∃ ta tc ha hc, v = .agg (wcells x ta tc ha hc) ∧ Tgs ta x.ts w ∧ Hrs ha x.hs w
theorem IsWd.below {v : Value} {x : Wd} {w w' : World} (h : IsWd v x w) (hb : Below w.heap.size w w') : IsWd v x w' := by
  obtain ⟨ta, tc, ha, hc, hv, h1, h2⟩ := h
  exact ⟨ta, tc, ha, hc, hv, h1.below hb, h2.below hb⟩
/-- The first items rise. -/
def RiseTo {α : Type} (r : α → α → Bool) (z : α) (xs : List α) (k : Nat) : Prop := ∀ i, i < k → 0 < i → r (xs.getD (i - 1) z) (xs.getD i z) = true
def RiseDec {α : Type} (r : α → α → Bool) (z : α) (xs : List α) (k : Nat) : Decidable (RiseTo r z xs k) := inferInstanceAs (Decidable (∀ i, i < k → 0 < i → r (xs.getD (i - 1) z) (xs.getD i z) = true))
def riseB {α : Type} (r : α → α → Bool) (z : α) (xs : List α) : Bool := @decide (RiseTo r z xs xs.length) (RiseDec r z xs xs.length)
section
variable {α : Type} {r : α → α → Bool} {z : α} {xs : List α}
theorem rise_yes (h : RiseTo r z xs xs.length) : riseB r z xs = true := by unfold riseB; exact @decide_eq_true _ (RiseDec r z xs xs.length) h
theorem rise_iff : riseB r z xs = true ↔ RiseTo r z xs xs.length := by unfold riseB; exact @decide_eq_true_iff _ (RiseDec r z xs xs.length)
theorem rise_no {k : Nat} (hk : k < xs.length) (h0 : 0 < k) (h : r (xs.getD (k - 1) z) (xs.getD k z) = false) : riseB r z xs = false := by
  unfold riseB
  exact @decide_eq_false _ (RiseDec r z xs xs.length) (fun hr => by rw [hr k hk h0] at h; cases h)
theorem rise_one (k : Nat) (hk : k ≤ 1) : RiseTo r z xs k := fun i h1 h2 => absurd h1 (by omega)
theorem RiseTo.more {k : Nat} (h : RiseTo r z xs k) (h1 : 0 < k → r (xs.getD (k - 1) z) (xs.getD k z) = true) : RiseTo r z xs (k + 1) := by
  intro i hi h0
  by_cases e : i = k
  · subst e; exact h1 h0
  · exact h i (by omega) h0
theorem RiseTo.pairs (tr : ∀ a b c, r a b = true → r b c = true → r a c = true) {n : Nat} (h : RiseTo r z xs n) : ∀ j, j < n → ∀ i, i < j → r (xs.getD i z) (xs.getD j z) = true := by
  intro j
  induction j with
  | zero => intro _ i hi; omega
  | succ j ih =>
    intro hj i hi
    have h1 := h (j + 1) hj (by omega)
    rw [Nat.add_sub_cancel] at h1
    by_cases e : i = j
    · subst e; exact h1
    · exact tr _ _ _ (ih (by omega) i (by omega)) h1
theorem all_take (p : α → Bool) (k : Nat) (h : k < xs.length) : (xs.take (k + 1)).all p = ((xs.take k).all p && p (xs.getD k z)) := by
  rw [take_more (z := z) xs k h, List.all_append]
  simp
theorem all_no (p : α → Bool) {k : Nat} (h : k < xs.length) (hp : p (xs.getD k z) = false) : xs.all p = false := by
  rw [List.all_eq_false]
  exact ⟨_, getD_mem xs k h, by rw [hp]; simp⟩
theorem all_get (p : α → Bool) (h : xs.all p = true) {k : Nat} (hk : k < xs.length) : p (xs.getD k z) = true := List.all_eq_true.1 h _ (getD_mem xs k hk)
end
/-- A right tag. -/
def tagOk (t : ByteArray) : Bool := decide (1 ≤ t.size) && EvtR.tagB t
def tagsB (ts : List ByteArray) : Bool := decide (ts.length ≤ 12) && (riseB lt tz ts && ts.all tagOk)
/-- An hour lies in a month. -/
def hourIn (h mo : Int) : Bool := decide (0 ≤ h ∧ h ≤ 2016666 ∧ 0 ≤ mo ∧ fd mo.toNat ≤ 60 * h / 1440 ∧ 60 * h / 1440 < fd (mo.toNat + 1))
def hlt (x y : H) : Bool := decide (x.h < y.h)
def hOk (mo su : Int) (x : H) : Bool := hourIn x.h mo && decide (0 ≤ x.s ∧ x.s ≤ su)
def hsum (hs : List H) : Int := (hs.map H.s).sum
def hoursB (hs : List H) (mo su : Int) : Bool := riseB hlt H.zero hs && (hs.all (hOk mo su) && decide (hsum hs = su))
def timedB (hs : List H) (mo su : Int) : Bool := decide (1 ≤ hs.length ∧ hs.length ≤ 12) && hoursB hs mo su
def namedB (a m : ByteArray) (mo : Int) : Bool := NameR.nameB a && (NameR.nameB m && decide (0 ≤ mo ∧ mo ≤ 2760))
def countedB (ev su mx : Int) : Bool := decide (1 ≤ ev ∧ ev ≤ 1000) && (decide (0 ≤ su ∧ su ≤ 1000000000000) && decide (0 ≤ mx ∧ mx ≤ su))
/-- A right window. -/
def wB (x : Wd) : Bool := namedB x.a x.m x.mo && (countedB x.ev x.su x.mx && (tagsB x.ts && timedB x.hs x.mo x.su))
theorem hsum_take (hs : List H) (k : Nat) (h : k < hs.length) : hsum (hs.take (k + 1)) = hsum (hs.take k) + (hs.getD k H.zero).s := by
  unfold hsum
  rw [take_more (z := H.zero) hs k h, List.map_append, List.sum_append]
  simp
theorem hsum_nn {hs : List H} {mo su : Int} (h : hs.all (hOk mo su) = true) : 0 ≤ hsum hs := by
  unfold hsum
  induction hs with
  | nil => simp
  | cons x l ih =>
    simp only [List.all_cons, Bool.and_eq_true] at h
    have := ih h.2
    have h1 := h.1
    unfold hOk at h1
    simp only [Bool.and_eq_true, decide_eq_true_eq] at h1
    simp only [List.map_cons, List.sum_cons]
    omega
theorem hsum_le {hs : List H} {mo su : Int} (h : hs.all (hOk mo su) = true) (k : Nat) : hsum (hs.take k) ≤ hsum hs := by
  have h2 : (hs.drop k).all (hOk mo su) = true := by
    rw [List.all_eq_true] at *
    exact fun x hx => h x (List.mem_of_mem_drop hx)
  have := hsum_nn h2
  have e : hsum hs = hsum (hs.take k) + hsum (hs.drop k) := by
    unfold hsum
    rw [← List.sum_append, ← List.map_append, List.take_append_drop]
  omega
/-- The hours are taken from the sum one by one. -/
def HUp (hs : List H) (mo su : Int) (k : Nat) : Prop := ∀ i, i < k → hourIn (hs.getD i H.zero).h mo = true ∧ 0 ≤ (hs.getD i H.zero).s ∧ (hs.getD i H.zero).s ≤ su - hsum (hs.take i)
theorem HUp.zero (hs : List H) (mo su : Int) : HUp hs mo su 0 := fun i h => absurd h (by omega)
theorem HUp.more {hs : List H} {mo su : Int} {k : Nat} (h : HUp hs mo su k) (h1 : hourIn (hs.getD k H.zero).h mo = true) (h2 : 0 ≤ (hs.getD k H.zero).s) (h3 : (hs.getD k H.zero).s ≤ su - hsum (hs.take k)) : HUp hs mo su (k + 1) := by
  intro i hi
  by_cases e : i = k
  · subst e; exact ⟨h1, h2, h3⟩
  · exact h i (by omega)
theorem HUp.nn {hs : List H} {mo su : Int} {k : Nat} (h : HUp hs mo su k) (hk : k ≤ hs.length) : 0 ≤ hsum (hs.take k) := by
  induction k with
  | zero => simp [hsum]
  | succ k ih =>
    have h1 := h k (by omega)
    have := ih (fun i hi => h i (by omega)) (by omega)
    rw [hsum_take hs k (by omega)]
    omega
theorem HUp.all {hs : List H} {mo su : Int} (h : HUp hs mo su hs.length) : hs.all (hOk mo su) = true := by
  rw [List.all_eq_true]
  intro x hx
  obtain ⟨k, hk, rfl⟩ := List.getElem_of_mem hx
  have h1 := h k hk
  have h2 := HUp.nn (k := k) (fun i hi => h i (by omega)) (by omega)
  have e : hs.getD k H.zero = hs[k] := by simp [List.getD, hk]
  rw [e] at h1
  unfold hOk
  simp only [Bool.and_eq_true, decide_eq_true_eq]
  exact ⟨h1.1, h1.2.1, by omega⟩
theorem hours_rise {hs : List H} {mo su : Int} (h : riseB hlt H.zero hs = false) : hoursB hs mo su = false := by unfold hoursB; rw [h, Bool.false_and]
theorem hours_end {hs : List H} {mo su : Int} (hr : riseB hlt H.zero hs = true) (h : HUp hs mo su hs.length) : hoursB hs mo su = decide (su - hsum hs = 0) := by
  unfold hoursB
  rw [hr, h.all, Bool.true_and, Bool.true_and]
  exact decide_eq_decide.2 ⟨fun e => by omega, fun e => by omega⟩
theorem hours_no {hs : List H} {mo su : Int} {k : Nat} (hk : k < hs.length) (h : ¬ (hourIn (hs.getD k H.zero).h mo = true ∧ 0 ≤ (hs.getD k H.zero).s ∧ (hs.getD k H.zero).s ≤ su - hsum (hs.take k))) : hoursB hs mo su = false := by
  cases hb : hoursB hs mo su
  · rfl
  · exfalso
    unfold hoursB at hb
    simp only [Bool.and_eq_true, decide_eq_true_eq] at hb
    obtain ⟨_, h1, h2⟩ := hb
    have h3 := all_get (z := H.zero) _ h1 hk
    have h4 := hsum_le h1 (k + 1)
    rw [hsum_take hs k hk] at h4
    unfold hOk at h3
    simp only [Bool.and_eq_true, decide_eq_true_eq] at h3
    exact h ⟨h3.1, h3.2.1, by omega⟩
/-- The model's way: one loop asks all. -/
def SUp (hs : List H) (mo su : Int) (k : Nat) : Prop := RiseTo hlt H.zero hs k ∧ (hs.take k).all (hOk mo su) = true
theorem SUp.zero (hs : List H) (mo su : Int) : SUp hs mo su 0 := ⟨rise_one 0 (by omega), by simp⟩
theorem SUp.more {hs : List H} {mo su : Int} {k : Nat} (h : SUp hs mo su k) (hk : k < hs.length) (h1 : hOk mo su (hs.getD k H.zero) = true) (h2 : 0 < k → hlt (hs.getD (k - 1) H.zero) (hs.getD k H.zero) = true) : SUp hs mo su (k + 1) :=
  ⟨h.1.more h2, by rw [all_take (z := H.zero) _ k hk, h.2, h1]; rfl⟩
theorem SUp.sum {hs : List H} {mo su : Int} {k : Nat} (h : SUp hs mo su k) (hsu : 0 ≤ su) (hk : k ≤ hs.length) : 0 ≤ hsum (hs.take k) ∧ hsum (hs.take k) ≤ su * k := by
  have hn := hsum_nn h.2
  refine ⟨hn, ?_⟩
  have h2 := h.2
  clear h hn
  induction k with
  | zero => simp [hsum]
  | succ k ih =>
    rw [all_take (z := H.zero) _ k (by omega), Bool.and_eq_true] at h2
    have := ih (by omega) h2.1
    have h3 := h2.2
    unfold hOk at h3
    simp only [Bool.and_eq_true, decide_eq_true_eq] at h3
    rw [hsum_take hs k (by omega)]
    have e : su * ((k + 1 : Nat) : Int) = su * k + su := by rw [Int.natCast_add, Int.mul_add]; simp
    omega
theorem hours_bad {hs : List H} {mo su : Int} {k : Nat} (hk : k < hs.length) (h : hOk mo su (hs.getD k H.zero) = false ∨ (0 < k ∧ hlt (hs.getD (k - 1) H.zero) (hs.getD k H.zero) = false)) : hoursB hs mo su = false := by
  unfold hoursB
  rcases h with h | ⟨h0, h⟩
  · rw [all_no _ hk h]; simp
  · rw [rise_no hk h0 h]; simp
theorem hours_done {hs : List H} {mo su : Int} (h : SUp hs mo su hs.length) : hoursB hs mo su = decide (hsum hs = su) := by
  unfold hoursB
  have h2 := h.2
  rw [List.take_length] at h2
  rw [rise_yes h.1, h2, Bool.true_and, Bool.true_and]
/-- Tags by one loop. -/
def TUp (ts : List ByteArray) (k : Nat) : Prop := RiseTo lt tz ts k ∧ (ts.take k).all tagOk = true
theorem TUp.zero (ts : List ByteArray) : TUp ts 0 := ⟨rise_one 0 (by omega), by simp⟩
theorem TUp.more {ts : List ByteArray} {k : Nat} (h : TUp ts k) (hk : k < ts.length) (h1 : tagOk (ts.getD k tz) = true) (h2 : 0 < k → lt (ts.getD (k - 1) tz) (ts.getD k tz) = true) : TUp ts (k + 1) :=
  ⟨h.1.more h2, by rw [all_take (z := tz) _ k hk, h.2, h1]; rfl⟩
theorem tags_bad {ts : List ByteArray} {k : Nat} (hk : k < ts.length) (h : tagOk (ts.getD k tz) = false ∨ (0 < k ∧ lt (ts.getD (k - 1) tz) (ts.getD k tz) = false)) : tagsB ts = false := by
  unfold tagsB
  rcases h with h | ⟨h0, h⟩
  · rw [all_no _ hk h]; simp
  · rw [rise_no hk h0 h]; simp
theorem tags_done {ts : List ByteArray} (h : TUp ts ts.length) : tagsB ts = decide (ts.length ≤ 12) := by
  unfold tagsB
  have h2 := h.2
  rw [List.take_length] at h2
  rw [rise_yes h.1, h2, Bool.true_and, Bool.and_true]
theorem tags_long {ts : List ByteArray} (h : 12 < ts.length) : tagsB ts = false := by
  unfold tagsB
  rw [decide_eq_false (by omega), Bool.false_and]
theorem tags_rise {ts : List ByteArray} (h : riseB lt tz ts = false) : tagsB ts = false := by
  unfold tagsB
  rw [h]; simp
theorem tags_end {ts : List ByteArray} (h12 : ts.length ≤ 12) (hr : riseB lt tz ts = true) : tagsB ts = ts.all tagOk := by
  unfold tagsB
  rw [hr, decide_eq_true h12, Bool.true_and, Bool.true_and]
/-- Which month a minute is of, and whether an hour lies in it. -/
theorem hour_month {h mo v : Int} (h1 : 0 ≤ h) (h2 : h ≤ 2016666) (k : Nat) (hv : v = (k : Int)) (f1 : fd k ≤ 60 * h / 1440) (f2 : 60 * h / 1440 < fd (k + 1)) : hourIn h mo = decide (v = mo) := by
  unfold hourIn
  subst hv
  apply decide_eq_decide.2
  constructor
  · rintro ⟨_, _, c, d, e⟩
    have g1 := fd_one f1 e
    have g2 := fd_one d f2
    omega
  · rintro rfl
    exact ⟨h1, h2, by omega, by simpa using f1, by simpa using f2⟩
theorem hour_far {h mo : Int} (hx : ¬ (0 ≤ h ∧ h ≤ 2016666)) : hourIn h mo = false := by
  unfold hourIn
  exact decide_eq_false (fun q => hx ⟨q.1, q.2.1⟩)
end WinR
end Go.Proofs.YtnlmpejgiakepaaDoor
namespace Go.Proofs.YtnlmpejgiakepaaDoor
open Go.ChangeShapes Go.WideShapes Go.ChangeAt Go.RowKit
set_option linter.unusedVariables false
namespace CatR
def Blk (b : Nat) (cs : List Value) (w : World) : Prop := b < w.heap.size ∧ ∀ i, i < cs.length → w.cell? ⟨b, i, none⟩ = cs[i]?
theorem Blk.below {b : Nat} {cs : List Value} {w w' : World} (h : Blk b cs w) (hb : Below w.heap.size w w') : Blk b cs w' :=
  ⟨by have := hb.size; have := h.1; omega, fun i hi => (hb.cell (p := ⟨b, i, none⟩) h.1).trans (h.2 i hi)⟩
theorem Blk.new (w : World) (cs : List Value) (T : TypeId) : Blk w.heap.size cs (w.alloc (.cells cs.toArray T)) :=
  ⟨by simp, fun i hi => by simp [go_sem]⟩
theorem Blk.alloc {b : Nat} {cs : List Value} {w : World} (h : Blk b cs w) (o : Obj) : Blk b cs (w.alloc o) := h.below ((Below.refl _ _).alloc (Nat.le_refl _) _)
theorem Blk.drew {b : Nat} {cs : List Value} {w : World} (h : Blk b cs w) : Blk b cs w.drew := h
theorem Blk.drewN {b : Nat} {cs : List Value} {w : World} (h : Blk b cs w) (n : Nat) : Blk b cs (w.drewN n) := h
end CatR
end Go.Proofs.YtnlmpejgiakepaaDoor
namespace Go.Proofs.YtnlmpejgiakepaaDoor
open Go.ChangeShapes Go.WideShapes Go.ChangeAt Go.RowKit
set_option linter.unusedVariables false
namespace WinR
open RowG LtR
open CatR (Blk Blk.new)
theorem bdN {B : Nat} {a w : World} (h : Below B a w) (n : Nat) : Below B a (w.drewN n) := ⟨h.os, h.tape, h.output, h.size, h.block⟩
theorem leq_yes {a p : ByteArray} (h : (Op.bytesLess a.toList p.toList || (a.toList == p.toList)) = true) : lt p a = false := by
  rw [Bool.or_eq_true] at h
  rcases h with h | h
  · exact lt_asymm h
  · rw [toList_inj (beq_iff_eq.1 h)]; exact lt_irrefl _
theorem leq_no {a p : ByteArray} (h : (Op.bytesLess a.toList p.toList || (a.toList == p.toList)) = false) : lt p a = true := by
  rw [Bool.or_eq_false_iff] at h
  cases h2 : lt p a
  · have := lt_total h2 h.1
    rw [this] at h
    simp at h
  · rfl
theorem tkey (t : ByteArray) (w : World) : Calls Tryd.prog 88 #[.string t] w fun e w' => e = .returned (.string t) ∧ w' = w := by
  go_enter Tryd.func88, Tryd.ntmps88
  go_wp2
  go_ret
  exact ⟨rfl, rfl⟩
theorem hkey (h s : Int) (w : World) : Calls Tryd.prog 90 #[.agg #[.int .i64 h, .int .i64 s]] w fun e w' => e = .returned (.int .i64 h) ∧ Below w.heap.size w w' := by
  go_enter Tryd.func90, Tryd.ntmps90
  go_wp2
  go_ret
  exact ⟨rfl, (Below.refl _ _).alloc (Nat.le_refl _) _⟩
set_option maxRecDepth 100000 in
set_option maxHeartbeats 4000000 in
theorem tags_rises (ao : Option Addr) (cap : Nat) (ts : List ByteArray) (w : World) (hlen : ts.length ≤ 1048576) (hI : Tgs ao ts w) :
    Calls Tryd.prog 101 #[.agg #[.slice ao ts.length cap, .func (.func 88) #[] #[], .func (.func 89) #[] #[]]] w fun e w' => e = .returned (.bool (riseB lt tz ts)) ∧ Below w.heap.size w w' := by
  have HI := hid_intro hI
  have HNO := hid_intro (fun k => rise_no (r := lt) (z := tz) (xs := ts) (k := k))
  have HYES : Hid (RiseTo lt tz ts ts.length → riseB lt tz ts = true) := hid_intro rise_yes
  generalize riseB lt tz ts = R at *
  obtain ⟨len, hl⟩ : ∃ len, len = ts.length := ⟨_, rfl⟩
  rw [← hl] at hlen HYES ⊢
  have HL := hid_intro hl
  have HK := hid_intro tkey
  clear hI hl
  have HB0 : Hid (Below w.heap.size w (w.alloc (.cells #[.slice ao len cap, .func (.func 88) #[] #[], .func (.func 89) #[] #[]] 91))) := hid_intro ((Below.refl _ _).alloc (Nat.le_refl _) _)
  have HX0 : Hid (Blk w.heap.size [.slice ao len cap, .func (.func 88) #[] #[], .func (.func 89) #[] #[]] (w.alloc (.cells #[.slice ao len cap, .func (.func 88) #[] #[], .func (.func 89) #[] #[]] 91))) := hid_intro (Blk.new w _ _)
  go_enter Tryd.func101, Tryd.ntmps101
  go_wp2_with fail
  go_loopw [3] (fun z wr => ∃ j : Nat, (j = 0 ∨ j + 1 ≤ len) ∧ z = .int .i64 ((j : Int) + 1) ∧ Hid (RiseTo lt tz ts (j + 1)) ∧ Hid (Below w.heap.size w wr) ∧ Hid (Blk w.heap.size [.slice ao len cap, .func (.func 88) #[] #[], .func (.func 89) #[] #[]] wr)) (fun z _ => len - (intOf z).toNat)
  case atStart => exact ⟨0, by omega, rfl, hid_intro (rise_one _ (by omega)), HB0, HX0⟩
  case round =>
    obtain ⟨j, hj, rfl, HR, HB, HX⟩ := hrel
    obtain ⟨xl, xc⟩ := HX.out
    have x0 : wr.cell? ⟨w.heap.size, 0, none⟩ = some (.slice ao len cap) := xc 0 (by simp)
    have x1 : wr.cell? ⟨w.heap.size, 1, none⟩ = some (.func (.func 88) #[] #[]) := xc 1 (by simp)
    clear xc
    by_cases hlt : j + 1 < len
    · have hlt2 : (j : Int) + 1 < (len : Int) := by omega
      obtain ⟨b, off, rfl, hbl, c1⟩ := (HI.out.below HB.out).at (j + 1) (by have := HL.out; omega)
      obtain ⟨b', off', he, _, c0⟩ := (HI.out.below HB.out).at j (by have := HL.out; omega)
      obtain ⟨rfl, rfl⟩ : b = b' ∧ off = off' := by simpa using he
      have HN := hid_intro (HNO.out (j + 1) (by have := HL.out; omega) (by omega))
      have HM := hid_intro (fun h => HR.out.more (k := j + 1) h)
      rw [Nat.add_sub_cancel] at HN HM
      generalize ts.getD (j + 1) tz = X at *
      generalize ts.getD j tz = Y at *
      cases hle : (Op.bytesLess X.toList Y.toList || (X.toList == Y.toList))
      · have HM2 := hid_intro (HM.out (fun _ => leq_no hle))
        go_wp2_with fail
        go_quiet ((go_at_call 88; exact Calls.quiet_of_same (HK.out _ _)))
        go_wp2_with fail
        go_roundw
        case rel => exact ⟨j + 1, by omega, by go_num, HM2, hid_intro (bdN HB.out _), hid_intro (HX.out.drewN _)⟩
        case measure => simp [intOf]; omega
      · have HF : Hid (R = false) := hid_intro (HN.out (leq_yes hle))
        go_wp2_with fail
        go_quiet ((go_at_call 88; exact Calls.quiet_of_same (HK.out _ _)))
        go_wp2_with fail
        go_ret
        exact ⟨ret_bool HF.out.symm, bdN HB.out _⟩
    · have hlt2 : ¬ (j : Int) + 1 < (len : Int) := by omega
      have HF : Hid (R = true) := hid_intro (HYES.out (fun i h1 h2 => HR.out i (by omega) h2))
      go_wp2_with fail
      go_ret
      exact ⟨ret_bool HF.out.symm, HB.out⟩
end WinR
end Go.Proofs.YtnlmpejgiakepaaDoor
namespace Go.Proofs.YtnlmpejgiakepaaDoor
open Go.ChangeShapes Go.WideShapes Go.ChangeAt Go.RowKit
set_option linter.unusedVariables false
namespace WinR
open RowG
open EvtR (Pt)
/-- How many letters tags hold. -/
def tsz (ts : List ByteArray) : Int := (ts.map (fun t => (t.size : Int))).sum
theorem tsz_nn (ts : List ByteArray) : 0 ≤ tsz ts := by
  unfold tsz
  induction ts with
  | nil => simp
  | cons e es ih => simp only [List.map_cons, List.sum_cons]; omega
theorem tsz_take (ts : List ByteArray) (k : Nat) (h : k < ts.length) : tsz (ts.take (k + 1)) = tsz (ts.take k) + ((ts.getD k tz).size : Int) := by
  unfold tsz
  rw [take_more (z := tz) ts k h, List.map_append, List.sum_append]
  simp
theorem tsz_le (ts : List ByteArray) (k : Nat) : tsz (ts.take k) ≤ tsz ts := by
  have := tsz_nn (ts.drop k)
  have e : tsz ts = tsz (ts.take k) + tsz (ts.drop k) := by
    unfold tsz
    rw [← List.sum_append, ← List.map_append, List.take_append_drop]
  omega
theorem tsz_mem {ts : List ByteArray} {t : ByteArray} (h : t ∈ ts) : (t.size : Int) ≤ tsz ts := by
  unfold tsz
  induction ts with
  | nil => simp at h
  | cons e es ih =>
    have := tsz_nn es
    unfold tsz at this
    simp only [List.map_cons, List.sum_cons]
    rcases List.mem_cons.1 h with rfl | h
    · omega
    · have := ih h; omega
/-- What is left of the law's size behind tags. -/
def tszR (ts : List ByteArray) (left : Int) : Int := if (ts.length : Int) + tsz ts ≤ left then left - (ts.length : Int) - tsz ts else -1
set_option maxHeartbeats 4000000 in
theorem szT_any (ao : Option Addr) (cap : Nat) (ts : List ByteArray) (left : Int) (w : World) (hm : ts.length ≤ maxLen) (h0 : 0 ≤ left) (h1 : left ≤ 1048576) (hI : Tgs ao ts w) (hw : ∀ t ∈ ts, t.size ≤ maxLen) :
    Calls Tryd.prog 18 #[.slice ao ts.length cap, .int .i64 left] w fun e w' => e = .returned (.int .i64 (tszR ts left)) ∧ Below w.heap.size w w' := by
  obtain ⟨len, hlen⟩ : ∃ len, len = ts.length := ⟨_, rfl⟩
  rw [← hlen] at hm ⊢
  have HZ := hid_intro hlen
  have HI := hid_intro hI
  have HW := hid_intro hw
  have HR : Hid (tszR ts left = if (ts.length : Int) + tsz ts ≤ left then left - (ts.length : Int) - tsz ts else -1) := rfl
  generalize tszR ts left = R at *
  unfold maxLen at hm
  clear hI hw hlen
  by_cases hbig : left < (len : Int)
  · have hl2 : left - (len : Int) < 0 := by omega
    have HN : Hid (R = -1) := hid_intro (by rw [HR.out, if_neg]; have := tsz_nn ts; have := HZ.out; omega)
    go_enter Tryd.func18, Tryd.ntmps18
    go_wp2_with fail
    go_ret
    exact ⟨ret_int HN.out.symm, Below.refl _ _⟩
  have hl : (len : Int) ≤ 1048576 := by omega
  have hl2 : ¬ left - (len : Int) < 0 := by omega
  go_enter Tryd.func18, Tryd.ntmps18
  go_wp2_with fail
  go_loopw [5, 1] (fun x y w' => ∃ (j : Nat) (L : Int), j ≤ len ∧ x = .int .i64 j ∧ y = .int .i64 L ∧ 0 ≤ L ∧ L ≤ 1048576 ∧ Hid (L = left - (len : Int) - tsz (ts.take j)) ∧ Hid (Below w.heap.size w w')) (fun x y w' => len - (intOf x).toNat)
  case atStart => exact ⟨0, left - (len : Int), Nat.zero_le _, rfl, rfl, by omega, by omega, hid_intro (by simp [tsz]), hid_intro (Below.refl _ _)⟩
  case round =>
    obtain ⟨j, L, hj, rfl, rfl, l0, l1, HL, HB⟩ := hrel
    by_cases hlt : j < len
    · obtain ⟨b, off, rfl, hbl, c0⟩ := (HI.out.below HB.out).at j (by have := HZ.out; omega)
      have HS := hid_intro (tsz_take ts j (by have := HZ.out; omega))
      have q1 := HW.out _ (getD_mem (z := tz) ts j (by have := HZ.out; omega))
      unfold maxLen at q1
      generalize ts.getD j tz = X at *
      have hlt2 : (j : Int) < (len : Int) := by omega
      by_cases hs : (X.size : Int) ≤ L
      · have HN : Hid (L - (X.size : Int) = left - (len : Int) - tsz (ts.take (j + 1))) := hid_intro (by rw [HS.out, HL.out]; omega)
        have r2 : ¬ L - (X.size : Int) < 0 := by omega
        go_wp2_with fail
        go_roundw
        case rel => exact ⟨j + 1, _, by omega, by go_num, rfl, by omega, by omega, HN, HB⟩
        case measure => simp [intOf]; omega
      · have HN : Hid (R = -1) := hid_intro (by rw [HR.out, if_neg]; have := tsz_le ts (j + 1); have := HS.out; have := HL.out; have := HZ.out; omega)
        have r2 : L - (X.size : Int) < 0 := by omega
        go_wp2_with fail
        go_ret
        exact ⟨ret_int HN.out.symm, HB.out⟩
    · obtain rfl : j = len := by omega
      have hlt2 : ¬ (j : Int) < (j : Int) := by omega
      have HN : Hid (R = L) := hid_intro (by
        have e := HL.out
        rw [List.take_of_length_le (by have := HZ.out; omega)] at e
        rw [HR.out, if_pos (by have := HZ.out; omega)]; have := HZ.out; omega)
      go_wp2_with fail
      go_ret
      exact ⟨ret_int HN.out.symm, HB.out⟩
theorem szH_any (ao : Option Addr) (cap len : Nat) (left : Int) (w : World) (hm : len ≤ maxLen) (h0 : 0 ≤ left) (h1 : left ≤ 1048576) :
    Calls Tryd.prog 19 #[.slice ao len cap, .int .i64 left] w fun e w' => e = .returned (.int .i64 (if (len : Int) ≤ left then left - (len : Int) else -1)) ∧ w' = w := by
  unfold maxLen at hm
  by_cases h : (len : Int) ≤ left
  · rw [if_pos h]
    have h2 : ¬ left - (len : Int) < 0 := by omega
    go_enter Tryd.func19, Tryd.ntmps19
    go_wp2_with fail
    go_ret
    exact ⟨rfl, rfl⟩
  · rw [if_neg h]
    have h2 : left - (len : Int) < 0 := by omega
    go_enter Tryd.func19, Tryd.ntmps19
    go_wp2_with fail
    go_ret
    exact ⟨rfl, rfl⟩
/-- What is left of the law's size behind a window. -/
def wszR (x : Wd) (left : Int) : Int := if (x.a.size : Int) + x.m.size + x.ts.length + tsz x.ts + x.hs.length ≤ left then left - ((x.a.size : Int) + x.m.size + x.ts.length + tsz x.ts + x.hs.length) else -1
/-- All in it is small. -/
def Wd.Small (x : Wd) : Prop := x.a.size ≤ 1048576 ∧ x.m.size ≤ 1048576 ∧ x.ts.length ≤ 1048576 ∧ (∀ t ∈ x.ts, t.size ≤ 1048576) ∧ x.hs.length ≤ 1048576
theorem wsz_small {x : Wd} {left : Int} (h1 : left ≤ 1048576) (h : ¬ wszR x left < 0) : x.Small ∧ 0 ≤ wszR x left ∧ wszR x left ≤ 1048576 := by
  unfold wszR at *
  have := tsz_nn x.ts
  split at h
  · rename_i q
    rw [if_pos q]
    refine ⟨⟨by omega, by omega, by omega, fun t ht => ?_, by omega⟩, by omega, by omega⟩
    have := tsz_mem ht
    omega
  · omega
/-- A window that came in. -/
def Wd.In (x : Wd) : Prop := x.a.size ≤ maxLen ∧ x.m.size ≤ maxLen ∧ x.ts.length ≤ maxLen ∧ (∀ t ∈ x.ts, t.size ≤ maxLen) ∧ x.hs.length ≤ maxLen
set_option maxHeartbeats 4000000 in
theorem szW_in (a m : ByteArray) (mo ev su mx : Int) (ta : Option Addr) (tl tc : Nat) (ha : Option Addr) (hl hc : Nat) (left T r1 r2 r3 r4 : Int) (w : World) (la : a.size ≤ maxLen) (lm : m.size ≤ maxLen) (h0 : 0 ≤ left) (h1 : left ≤ 1048576)
    (e1 : r1 = left - a.size) (e2 : r2 = r1 - m.size)
    (hT : 0 ≤ r1 → 0 ≤ r2 → ∀ W, Below w.heap.size w W → Calls Tryd.prog 18 #[.slice ta tl tc, .int .i64 r2] W fun e w' => e = .returned (.int .i64 r3) ∧ Below W.heap.size W w')
    (hH : 0 ≤ r3 → ∀ W, Calls Tryd.prog 19 #[.slice ha hl hc, .int .i64 r3] W fun e w' => e = .returned (.int .i64 r4) ∧ w' = W)
    (hR : T = if r1 < 0 then -1 else if r2 < 0 then -1 else if r3 < 0 then -1 else if r4 < 0 then -1 else r4) :
    Calls Tryd.prog 5 #[.agg #[.string a, .string m, .int .i64 mo, .int .i64 ev, .int .i64 su, .int .i64 mx, .slice ta tl tc, .slice ha hl hc], .int .i64 left] w fun e w' => e = .returned (.int .i64 T) ∧ Below w.heap.size w w' := by
  unfold maxLen at *
  have HT := hid_intro hT
  have HH := hid_intro hH
  have HB0 : Hid (Below w.heap.size w (w.alloc (.cells #[.string a, .string m, .int .i64 mo, .int .i64 ev, .int .i64 su, .int .i64 mx, .slice ta tl tc, .slice ha hl hc] 25))) := hid_intro ((Below.refl _ _).alloc (Nat.le_refl _) _)
  clear hT hH
  by_cases q1 : r1 < 0
  · rw [if_pos q1] at hR
    have q1' : left - (a.size : Int) < 0 := by omega
    clear e1 e2
    go_enter Tryd.func5, Tryd.ntmps5
    go_wp2_with fail
    go_ret
    exact ⟨ret_int (by first | rfl | exact hR.symm | omega), HB0.out⟩
  · rw [if_neg q1] at hR
    have q1' : ¬ left - (a.size : Int) < 0 := by omega
    by_cases q2 : r2 < 0
    · rw [if_pos q2] at hR
      have q2' : left - (a.size : Int) - (m.size : Int) < 0 := by omega
      clear e1 e2
      go_enter Tryd.func5, Tryd.ntmps5
      go_wp2_with fail
      go_ret
      exact ⟨ret_int (by first | rfl | exact hR.symm | omega), HB0.out⟩
    · rw [if_neg q2] at hR
      have q2' : ¬ left - (a.size : Int) - (m.size : Int) < 0 := by omega
      have HT2 := hid_intro (HT.out (by omega) (by omega))
      have e3 : left - (a.size : Int) - (m.size : Int) = r2 := by omega
      have HX0 := hid_intro (CatR.Blk.new w [.string a, .string m, .int .i64 mo, .int .i64 ev, .int .i64 su, .int .i64 mx, .slice ta tl tc, .slice ha hl hc] 25)
      clear e1 e2 HT
      go_enter Tryd.func5, Tryd.ntmps5
      go_wp2_with fail
      first | rw [e3] | skip
      refine (HT2.out _ HB0.out).mono ?_
      rintro e w2 ⟨rfl, hb2⟩
      have HB2 := hid_intro (HB0.out.trans (hb2.mono HB0.out.size))
      have HX2 := hid_intro (HX0.out.below hb2)
      obtain ⟨xl, xc⟩ := HX2.out
      have y7 : w2.cell? ⟨w.heap.size, 7, none⟩ = some (.slice ha hl hc) := xc 7 (by simp)
      clear xc hb2
      by_cases q3 : r3 < 0
      · rw [if_pos q3] at hR
        go_wp2_with fail
        go_ret
        exact ⟨ret_int (by first | rfl | exact hR.symm | omega), HB2.out⟩
      · rw [if_neg q3] at hR
        have HH2 := hid_intro (HH.out (by omega))
        go_wp2_with fail
        refine (HH2.out _).mono ?_
        rintro e w3 ⟨rfl, rfl⟩
        by_cases q4 : r4 < 0
        · rw [if_pos q4] at hR
          go_wp2_with fail
          go_ret
          exact ⟨ret_int (by first | rfl | exact hR.symm | omega), HB2.out⟩
        · rw [if_neg q4] at hR
          go_wp2_with fail
          go_ret
          exact ⟨ret_int (by first | rfl | exact hR.symm | omega), HB2.out⟩
theorem szW_any (x : Wd) (ta : Option Addr) (tc : Nat) (ha : Option Addr) (hc : Nat) (left : Int) (w : World) (h0 : 0 ≤ left) (h1 : left ≤ 1048576) (hI : x.In) (hT : Tgs ta x.ts w) :
    Calls Tryd.prog 5 #[.agg (wcells x ta tc ha hc), .int .i64 left] w fun e w' => e = .returned (.int .i64 (wszR x left)) ∧ Below w.heap.size w w' := by
  obtain ⟨i1, i2, i3, i4, i5⟩ := hI
  have n0 := tsz_nn x.ts
  refine szW_in x.a x.m x.mo x.ev x.su x.mx ta x.ts.length tc ha x.hs.length hc left _ (left - x.a.size) (left - x.a.size - x.m.size) (tszR x.ts (left - x.a.size - x.m.size)) (if (x.hs.length : Int) ≤ tszR x.ts (left - x.a.size - x.m.size) then tszR x.ts (left - x.a.size - x.m.size) - (x.hs.length : Int) else -1) w i1 i2 h0 h1 rfl rfl (fun q1 q2 W hW => szT_any ta tc x.ts _ W i3 (by omega) (by omega) (hT.below hW) i4) (fun q3 W => szH_any ha hc x.hs.length _ W i5 (by omega) ?_) ?_
  · unfold tszR; split <;> omega
  · unfold wszR tszR
    repeat' split
    all_goals omega
end WinR
end Go.Proofs.YtnlmpejgiakepaaDoor
namespace Go.Proofs.YtnlmpejgiakepaaDoor
open Go.ChangeShapes Go.WideShapes Go.ChangeAt Go.RowKit
set_option linter.unusedVariables false
namespace WinR
open RowG
open EvtR (Pt)
theorem infoT : (Tryd.prog.info? 9).map (fun i => (i.zero, i.size, i.bytes)) = some (some (.string ⟨#[]⟩), 1, 16) := by kernel_rfl
theorem infoH : (Tryd.prog.info? 65).map (fun i => (i.zero, i.size, i.bytes)) = some (some (.agg #[.int .i64 0, .int .i64 0]), 2, 16) := by kernel_rfl
theorem row_full {w : World} {base e g n s : Nat} {xs : List Value} (h : w.ownsRow base e s (.slice (some ⟨g, 0, none⟩) n n) n xs) : Pt g (n * s) w := by
  rcases h.2 with ⟨h1, _⟩ | ⟨g', cap, cur, h1, _, hg, _, _, hs, _⟩
  · simp at h1
  · simp at h1
    obtain ⟨rfl, rfl⟩ := h1
    refine ⟨(Array.getElem?_eq_some_iff.1 hg).1, fun o ho => ⟨cur[o]'(by omega), ?_⟩, fun o ho => ?_⟩
    · have : o < cur.size := by omega
      simp [World.cell?, hg, this]
    · simp [World.frozen?, hg]
theorem fill_step {f : Nat → Option Value} {w wr : World} {m j : Nat} (hb : Below w.heap.size w wr) (hp : Pt w.heap.size m wr) (hw : Wr f j w.heap.size wr) (hj : j < m) (v : Value) (hv : f j = some v) :
    Below w.heap.size w (wr.setCell ⟨w.heap.size, j, none⟩ v) ∧ Pt w.heap.size m (wr.setCell ⟨w.heap.size, j, none⟩ v) ∧ Wr f (j + 1) w.heap.size (wr.setCell ⟨w.heap.size, j, none⟩ v) :=
  ⟨hb.setCell (Nat.le_refl _) _, hp.set _ _, hw.more hp hj v hv⟩
theorem cellT (ts : List ByteArray) (o : Nat) : cellAt 1 tcells tz ts o = some (.string (ts.getD o tz)) := by
  unfold cellAt
  rw [Nat.div_one, Nat.mod_one]
  rfl
set_option maxRecDepth 100000 in
set_option maxHeartbeats 4000000 in
theorem toTs_any (ao : Option Addr) (cap : Nat) (ts : List ByteArray) (w : World) (hlen : ts.length ≤ 1048576) (hI : Tgs ao ts w) :
    Calls Tryd.prog 25 #[.slice ao ts.length cap] w fun e w' => e = .returned (.slice (some ⟨w.heap.size, 0, none⟩) ts.length ts.length) ∧ Tgs (some ⟨w.heap.size, 0, none⟩) ts w' ∧ Pt w.heap.size ts.length w' ∧ Below w.heap.size w w' := by
  obtain ⟨i0, hi, hz0, hz1, hz2⟩ := info_parts infoT
  have HI := hid_intro hI
  have HWS : Hid (∀ wr, Wr (cellAt 1 tcells tz ts) (ts.length * 1) w.heap.size wr → w.heap.size < wr.heap.size → Tgs (some ⟨w.heap.size, 0, none⟩) ts wr) := hid_intro (fun wr h hl => Wr.rws h hl)
  obtain ⟨len, hl⟩ : ∃ len, len = ts.length := ⟨_, rfl⟩
  rw [← hl] at hlen HWS ⊢
  have HL := hid_intro hl
  clear hI hl
  go_enter Tryd.func25, Tryd.ntmps25
  go_wp2_with (at_make; refine wpList_make_full _ rfl _ _ 22 rfl w.heap.size 9 i0 (.string ⟨#[]⟩) 1 Tryd.underlying22 hi hz0 hz1 .i64 .i64 _ _ len rfl rfl rfl rfl ?b2 ?b3 ?b4 ?_)
  case b2 => rw [hz2]; omega
  case b3 => unfold maxLen; omega
  case b4 => exact Nat.le_refl _
  intro wm hown hgrow
  have HB0 : Hid (Below w.heap.size w wm) := hid_intro ((Below.refl _ _).grown hgrow (Nat.le_refl _) (fun k e => by cases e))
  have HP0 := hid_intro (row_full hown)
  clear hown hgrow hi hz0 hz1 hz2
  go_wp2_with fail
  go_loopw [4] (fun z wr => ∃ k : Nat, k ≤ len ∧ z = .int .i64 k ∧ Hid (Below w.heap.size w wr) ∧ Hid (Pt w.heap.size (len * 1) wr) ∧ Hid (Wr (cellAt 1 tcells tz ts) k w.heap.size wr)) (fun z _ => len - (intOf z).toNat)
  case atStart => exact ⟨0, by omega, rfl, HB0, HP0, hid_intro (fun o ho => absurd ho (by omega))⟩
  case round =>
    obtain ⟨k, hk, rfl, HB, HP, HW⟩ := hrel
    by_cases hlt : k < len
    · have hlt2 : (k : Int) < (len : Int) := by omega
      obtain ⟨b, off, rfl, hbl, c0⟩ := (HI.out.below HB.out).at k (by have := HL.out; omega)
      have HS0 := hid_intro (fill_step HB.out HP.out HW.out (by omega) (.string (ts.getD k tz)) (cellT ts k))
      generalize ts.getD k tz = X at *
      obtain ⟨v0, d0⟩ := HP.out.has k (by omega)
      have z0 := HP.out.free k (by omega)
      go_wp2_with fail
      go_roundw
      case rel => exact ⟨k + 1, by omega, by go_num, hid_intro HS0.out.1, hid_intro HS0.out.2.1, hid_intro HS0.out.2.2⟩
      case measure => simp [intOf]; omega
    · have hlt2 : ¬ (k : Int) < (len : Int) := by omega
      obtain rfl : k = len := by omega
      go_wp2_with fail
      go_ret
      exact ⟨rfl, HWS.out _ (by rw [Nat.mul_one]; exact HW.out) HP.out.lt, (by have h := HP.out; rwa [Nat.mul_one] at h), HB.out⟩
theorem toHour_any (h s : Int) (w : World) :
    Calls Tryd.prog 52 #[.agg #[.int .i64 h, .int .i64 s]] w fun e w' => e = .returned (.agg #[.int .i64 h, .int .i64 s]) ∧ Below w.heap.size w w' := by
  go_enter Tryd.func52, Tryd.ntmps52
  go_wp2_with fail
  refine bodyPost_ret (v := .agg #[.int .i64 h, .int .i64 s]) (by simp [results, Tryd.results52, go_sem]) rfl ⟨rfl, ?_⟩
  repeat' first | exact Below.refl _ _ | apply Below.setCell | apply Below.alloc
  all_goals first | omega | (simp; done) | (simp; omega)
set_option maxRecDepth 100000 in
set_option maxHeartbeats 4000000 in
theorem toHs_any (ao : Option Addr) (cap : Nat) (hs : List H) (w : World) (hlen : hs.length ≤ 1048576) (hI : Hrs ao hs w) :
    Calls Tryd.prog 26 #[.slice ao hs.length cap] w fun e w' => e = .returned (.slice (some ⟨w.heap.size, 0, none⟩) hs.length hs.length) ∧ Hrs (some ⟨w.heap.size, 0, none⟩) hs w' ∧ Pt w.heap.size (hs.length * 2) w' ∧ Below w.heap.size w w' := by
  obtain ⟨i0, hi, hz0, hz1, hz2⟩ := info_parts infoH
  have HI := hid_intro hI
  have HWS : Hid (∀ wr, Wr (cellAt 2 H.cells H.zero hs) (hs.length * 2) w.heap.size wr → w.heap.size < wr.heap.size → Hrs (some ⟨w.heap.size, 0, none⟩) hs wr) := hid_intro (fun wr h hl => Wr.rws h hl)
  obtain ⟨len, hl⟩ : ∃ len, len = hs.length := ⟨_, rfl⟩
  rw [← hl] at hlen HWS ⊢
  have HL := hid_intro hl
  clear hI hl
  go_enter Tryd.func26, Tryd.ntmps26
  go_wp2_with (at_make; refine wpList_make_full _ rfl _ _ 30 rfl w.heap.size 65 i0 (.agg #[.int .i64 0, .int .i64 0]) 2 Tryd.underlying30 hi hz0 hz1 .i64 .i64 _ _ len rfl rfl rfl rfl ?b2 ?b3 ?b4 ?_)
  case b2 => rw [hz2]; omega
  case b3 => unfold maxLen; omega
  case b4 => exact Nat.le_refl _
  intro wm hown hgrow
  have HB0 : Hid (Below w.heap.size w wm) := hid_intro ((Below.refl _ _).grown hgrow (Nat.le_refl _) (fun k e => by cases e))
  have HP0 := hid_intro (row_full hown)
  clear hown hgrow hi hz0 hz1 hz2
  go_wp2_with fail
  go_loopw [4] (fun z wr => ∃ k : Nat, k ≤ len ∧ z = .int .i64 k ∧ Hid (Below w.heap.size w wr) ∧ Hid (Pt w.heap.size (len * 2) wr) ∧ Hid (Wr (cellAt 2 H.cells H.zero hs) (k * 2) w.heap.size wr)) (fun z _ => len - (intOf z).toNat)
  case atStart => exact ⟨0, by omega, rfl, HB0, HP0, hid_intro (fun o ho => absurd ho (by omega))⟩
  case round =>
    obtain ⟨k, hk, rfl, HB, HP, HW⟩ := hrel
    by_cases hlt : k < len
    · have hlt2 : (k : Int) < (len : Int) := by omega
      obtain ⟨b, off, rfl, hbl, c0, c1⟩ := (HI.out.below HB.out).at k (by have := HL.out; omega)
      have HX := hid_intro (cellAt_of (k := 2) (cells := H.cells) (z := H.zero) (xs := hs) k)
      generalize hs.getD k H.zero = X at *
      obtain ⟨xh, xs⟩ := X
      have HC := hid_intro (fun w => toHour_any xh xs w)
      go_wp2_with fail
      refine (HC.out _).mono ?_
      rintro e w1 ⟨rfl, hb⟩
      replace HW := hid_intro (HW.out.below HP.out hb)
      replace HP := hid_intro (HP.out.below hb)
      replace HB := hid_intro (HB.out.trans (hb.mono HB.out.size))
      have HS0 := hid_intro (fill_step HB.out HP.out HW.out (by omega) (.int .i64 xh) (HX.out 0 (by omega)))
      have HS1 := hid_intro (fill_step HS0.out.1 HS0.out.2.1 HS0.out.2.2 (by omega) (.int .i64 xs) (HX.out 1 (by omega)))
      obtain ⟨v0, d0⟩ := HP.out.has (k * 2) (by omega)
      obtain ⟨v1, d1⟩ := HP.out.has (k * 2 + 1) (by omega)
      have z0 := HP.out.free (k * 2) (by omega)
      have z1 := HP.out.free (k * 2 + 1) (by omega)
      clear hb c0 c1 HX HS0
      go_wp2_with fail
      go_roundw
      case rel => exact ⟨k + 1, by omega, by go_num, hid_intro HS1.out.1, hid_intro HS1.out.2.1, hid_intro (by rw [show (k + 1) * 2 = k * 2 + 1 + 1 by omega]; exact HS1.out.2.2)⟩
      case measure => simp [intOf]; omega
    · have hlt2 : ¬ (k : Int) < (len : Int) := by omega
      obtain rfl : k = len := by omega
      go_wp2_with fail
      go_ret
      exact ⟨rfl, HWS.out _ HW.out HP.out.lt, HP.out, HB.out⟩
set_option maxHeartbeats 4000000 in
theorem eqTs_any (ao bo : Option Addr) (cap cap' : Nat) (ts : List ByteArray) (w : World) (hlen : ts.length ≤ 1048576) (hI : Tgs ao ts w) (hJ : Tgs bo ts w) :
    Calls Tryd.prog 29 #[.slice ao ts.length cap, .slice bo ts.length cap'] w fun e w' => e = .returned (.bool true) ∧ Below w.heap.size w w' := by
  have HI := hid_intro hI
  have HJ := hid_intro hJ
  obtain ⟨len, hl⟩ : ∃ len, len = ts.length := ⟨_, rfl⟩
  rw [← hl] at hlen ⊢
  have HL := hid_intro hl
  clear hI hJ hl
  go_enter Tryd.func29, Tryd.ntmps29
  go_wp2_with fail
  go_loopw [5] (fun z wr => ∃ k : Nat, k ≤ len ∧ z = .int .i64 k ∧ Hid (Below w.heap.size w wr)) (fun z _ => len - (intOf z).toNat)
  case atStart => exact ⟨0, by omega, rfl, hid_intro (Below.refl _ _)⟩
  case round =>
    obtain ⟨k, hk, rfl, HW⟩ := hrel
    by_cases hlt : k < len
    · have hlt2 : (k : Int) < (len : Int) := by omega
      obtain ⟨b, off, rfl, _, c0⟩ := (HI.out.below HW.out).at k (by have := HL.out; omega)
      obtain ⟨b', off', rfl, _, e0⟩ := (HJ.out.below HW.out).at k (by have := HL.out; omega)
      generalize ts.getD k tz = X at *
      go_wp2_with fail
      try (go_quiet (fail); go_wp2_with fail)
      go_roundw
      case rel => exact ⟨k + 1, by omega, by go_num, hid_intro (by first | exact HW.out | exact bdN HW.out _)⟩
      case measure => simp [intOf]; omega
    · have hlt2 : ¬ (k : Int) < (len : Int) := by omega
      go_wp2_with fail
      go_ret
      exact ⟨rfl, HW.out⟩
theorem eqHour_any (h s : Int) (w : World) : Calls Tryd.prog 62 #[.agg #[.int .i64 h, .int .i64 s], .agg #[.int .i64 h, .int .i64 s]] w fun e w' => e = .returned (.bool true) ∧ Below w.heap.size w w' := by
  go_enter Tryd.func62, Tryd.ntmps62
  go_wp2
  go_ret
  refine ⟨rfl, ?_⟩
  repeat' first | exact Below.refl _ _ | apply Below.setCell | apply Below.alloc
  all_goals first | omega | (simp; done) | (simp; omega)
set_option maxHeartbeats 4000000 in
theorem eqHs_any (ao bo : Option Addr) (cap cap' : Nat) (hs : List H) (w : World) (hlen : hs.length ≤ 1048576) (hI : Hrs ao hs w) (hJ : Hrs bo hs w) :
    Calls Tryd.prog 30 #[.slice ao hs.length cap, .slice bo hs.length cap'] w fun e w' => e = .returned (.bool true) ∧ Below w.heap.size w w' := by
  have HI := hid_intro hI
  have HJ := hid_intro hJ
  obtain ⟨len, hl⟩ : ∃ len, len = hs.length := ⟨_, rfl⟩
  rw [← hl] at hlen ⊢
  have HL := hid_intro hl
  clear hI hJ hl
  go_enter Tryd.func30, Tryd.ntmps30
  go_wp2_with fail
  go_loopw [5] (fun z wr => ∃ k : Nat, k ≤ len ∧ z = .int .i64 k ∧ Hid (Below w.heap.size w wr)) (fun z _ => len - (intOf z).toNat)
  case atStart => exact ⟨0, by omega, rfl, hid_intro (Below.refl _ _)⟩
  case round =>
    obtain ⟨k, hk, rfl, HW⟩ := hrel
    by_cases hlt : k < len
    · have hlt2 : (k : Int) < (len : Int) := by omega
      obtain ⟨b, off, rfl, _, c0, c1⟩ := (HI.out.below HW.out).at k (by have := HL.out; omega)
      obtain ⟨b', off', rfl, _, e0, e1⟩ := (HJ.out.below HW.out).at k (by have := HL.out; omega)
      generalize hs.getD k H.zero = X at *
      obtain ⟨xh, xs⟩ := X
      have HC := hid_intro (fun w => eqHour_any xh xs w)
      go_wp2_with fail
      go_region_with (go_at_call 62; refine (HC.out _).mono ?_; rintro e w1 ⟨rfl, hb⟩)
      all_goals (
        have HB1 := hid_intro (HW.out.drew.trans (hb.mono HW.out.drew.size))
        clear hb c0 c1 e0 e1
        go_wp2_with fail
        go_roundw
        case rel => exact ⟨k + 1, by omega, by go_num, HB1⟩
        case measure => simp [intOf]; omega)
    · have hlt2 : ¬ (k : Int) < (len : Int) := by omega
      go_wp2_with fail
      go_ret
      exact ⟨rfl, HW.out⟩
end WinR
end Go.Proofs.YtnlmpejgiakepaaDoor
