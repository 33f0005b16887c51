/-
  Lines put among others that rise by their Meters, the numbers of one Meter added; and a map of numbers by Meters, read as such a list. No condition.
  strings.Clone: the same bytes come back; nothing that was there is written. The condition: the text has at most 2^48 bytes.
  Lines that are put together, and what is left of them behind a credit: both sides say the same. The condition: at most 1048576 lines, whose Meters have at most 1048576 bytes.
-/
import Derived.Maps.OwnSet
import Derived.Sort.KeysCollected
import Derived.Lib.Strings
import Derived.Lib.BufferWrite
import Derived.Lib.UnsafeStr
import Derived.Lib.Hide
import Derived.Laws.MakeOwn
import Derived.OwnWalk
import Derived.Deep.RegionHeld3
import Derived.Test.YtjfmdcdclifpkaaGreatDoorE13
namespace Go.Proofs.YtjfmdcdclifpkaaGreatDoor
open Go.ChangeShapes Go.WideShapes Go.ChangeAt Go.RowKit
set_option linter.unusedVariables false
namespace NetR
open LinR RowG LtR
section
variable {α : Type} (r : α → α → Bool) (f : α → α → α)
/-- One put in its place. -/
def ins : List α → α → List α
  | [], y => [y]
  | x :: xs, y => if r x y then x :: ins xs y else if r y x then y :: x :: xs else f x y :: xs
end
section
variable {α : Type} {r : α → α → Bool} {f : α → α → α} {z : α}
theorem ins_end : ∀ (xs : List α) (y : α), (∀ j, j < xs.length → r (xs.getD j z) y = true) → ins r f xs y = xs ++ [y]
  | [], y, _ => rfl
  | x :: xs, y, h => by
    have h0 : r x y = true := by simpa using h 0 (by simp)
    rw [ins, if_pos h0, ins_end xs y (fun j hj => by simpa using h (j + 1) (by simpa using hj))]
    rfl
theorem ins_at : ∀ (xs : List α) (y : α) (q : Nat), q < xs.length → (∀ j, j < q → r (xs.getD j z) y = true) → r (xs.getD q z) y = false →
    (r y (xs.getD q z) = true → ins r f xs y = xs.take q ++ y :: xs.drop q) ∧ (r y (xs.getD q z) = false → ins r f xs y = xs.take q ++ f (xs.getD q z) y :: xs.drop (q + 1))
  | [], y, q, hq, _, _ => by simp at hq
  | x :: xs, y, 0, hq, _, h1 => by
    have h2 : r x y = false := by simpa using h1
    constructor
    · intro h3
      have h4 : r y x = true := by simpa using h3
      rw [ins, if_neg (by simp [h2]), if_pos h4]
      rfl
    · intro h3
      have h4 : r y x = false := by simpa using h3
      rw [ins, if_neg (by simp [h2]), if_neg (by simp [h4])]
      simp
  | x :: xs, y, q + 1, hq, h0, h1 => by
    have h2 : r x y = true := by simpa using h0 0 (by omega)
    have ih := ins_at xs y q (by simpa using hq) (fun j hj => by simpa using h0 (j + 1) (by omega)) (by simpa using h1)
    constructor
    · intro h3
      rw [ins, if_pos h2, ih.1 (by simpa using h3)]
      simp
    · intro h3
      rw [ins, if_pos h2, ih.2 (by simpa using h3)]
      simp
theorem ins_len : ∀ (xs : List α) (y : α), (ins r f xs y).length ≤ xs.length + 1
  | [], y => by simp [ins]
  | x :: xs, y => by
    have := ins_len xs y
    rw [ins]
    split
    · simp only [List.length_cons]; omega
    · split <;> simp
theorem ins_all (p : α → Prop) (hf : ∀ x y, p x → p y → p (f x y)) : ∀ (xs : List α) (y : α), (∀ x ∈ xs, p x) → p y → ∀ x ∈ ins r f xs y, p x
  | [], y, _, hy, x, hx => by simp [ins] at hx; rw [hx]; exact hy
  | a :: xs, y, h, hy, x, hx => by
    have h1 := h a (by simp)
    have h2 := ins_all p hf xs y (fun x hx => h x (by simp [hx])) hy
    rw [ins] at hx
    split at hx
    · rcases List.mem_cons.1 hx with rfl | hx
      · exact h1
      · exact h2 x hx
    · split at hx
      · rcases List.mem_cons.1 hx with rfl | hx
        · exact hy
        · exact h x hx
      · rcases List.mem_cons.1 hx with rfl | hx
        · exact hf _ _ h1 hy
        · exact h x (by simp [hx])
end
def nlt (x y : N) : Bool := lt x.i y.i
def addN (x y : N) : N := ⟨x.i, x.n + y.n⟩
/-- One line more. -/
def put (L : List N) (x : N) : List N := ins nlt addN L x
/-- They rise by their Meters. -/
def Rise (L : List N) : Prop := L.Pairwise (fun x y => lt x.i y.i = true)
/-- A line so many times. -/
def sg (s : Int) (x : N) : N := ⟨x.i, s * x.n⟩
/-- Lines so many times added to others. -/
def all (L b : List N) (s : Int) : List N := b.foldl (fun l x => put l (sg s x)) L
theorem all_more (L b : List N) (s : Int) (k : Nat) (h : k < b.length) : all L (b.take (k + 1)) s = put (all L (b.take k) s) (sg s (b.getD k N.zero)) := by
  unfold all
  rw [take_more (z := N.zero) b k h, List.foldl_append]
  rfl
theorem neq_of {x y : N} (h1 : nlt x y = false) (h2 : nlt y x = false) : x.i = y.i := lt_total h1 h2
/-- The number of a Meter. -/
def val : List N → ByteArray → Int
  | [], _ => 0
  | y :: l, n => if y.i = n then y.n else val l n
theorem val_none : ∀ {L : List N} {n : ByteArray}, (∀ y ∈ L, y.i ≠ n) → val L n = 0
  | [], _, _ => rfl
  | y :: l, n, h => by
    rw [val, if_neg (h y (by simp))]
    exact val_none (fun y hy => h y (by simp [hy]))
theorem val_mem : ∀ {L : List N}, Rise L → ∀ y ∈ L, val L y.i = y.n
  | [], _, y, h => by cases h
  | x :: l, hr, y, h => by
    rw [val]
    rcases List.mem_cons.1 h with rfl | h
    · rw [if_pos rfl]
    · have h1 := (List.pairwise_cons.1 hr).1 y h
      have h2 : x.i ≠ y.i := fun e => by rw [e, lt_irrefl] at h1; cases h1
      rw [if_neg h2]
      exact val_mem (List.pairwise_cons.1 hr).2 y h
theorem mem_put : ∀ {L : List N} {x : N} {n : ByteArray}, (∃ y ∈ put L x, y.i = n) ↔ (n = x.i ∨ ∃ y ∈ L, y.i = n)
  | [], x, n => by simp [put, ins]; exact eq_comm
  | a :: l, x, n => by
    have ih := mem_put (L := l) (x := x) (n := n)
    unfold put at *
    rw [ins]
    split
    · simp only [List.mem_cons, exists_eq_or_imp, ih]
      constructor
      · rintro (h | h | h)
        · exact .inr (.inl h)
        · exact .inl h
        · exact .inr (.inr h)
      · rintro (h | h | h)
        · exact .inr (.inl h)
        · exact .inl h
        · exact .inr (.inr h)
    · rename_i h1
      split
      · simp only [List.mem_cons, exists_eq_or_imp]
        constructor
        · rintro (h | h | h)
          · exact .inl h.symm
          · exact .inr (.inl h)
          · exact .inr (.inr h)
        · rintro (h | h | h)
          · exact .inl h.symm
          · exact .inr (.inl h)
          · exact .inr (.inr h)
      · rename_i h2
        have e := neq_of (by simpa using h1) (by simpa using h2)
        simp only [List.mem_cons, exists_eq_or_imp]
        constructor
        · rintro (h | h)
          · exact .inl (by rw [← e]; exact h.symm)
          · exact .inr (.inr h)
        · rintro (h | h | h)
          · exact .inl (by rw [h]; exact e)
          · exact .inl h
          · exact .inr h
theorem rise_put : ∀ {L : List N} (x : N), Rise L → Rise (put L x)
  | [], x, _ => by simp [put, ins, Rise]
  | a :: l, x, hr => by
    have h0 := List.pairwise_cons.1 hr
    have ih := rise_put x h0.2
    have hm := fun n => mem_put (L := l) (x := x) (n := n)
    unfold put Rise at *
    rw [ins]
    split
    · rename_i h1
      refine List.pairwise_cons.2 ⟨fun y hy => ?_, ih⟩
      rcases (hm y.i).1 ⟨y, hy, rfl⟩ with e | ⟨z, hz, e⟩
      · rw [e]; exact h1
      · rw [← e]; exact h0.1 z hz
    · rename_i h1
      split
      · rename_i h2
        refine List.pairwise_cons.2 ⟨fun y hy => ?_, hr⟩
        rcases List.mem_cons.1 hy with rfl | hy
        · exact h2
        · exact lt_trans h2 (h0.1 y hy)
      · exact List.pairwise_cons.2 ⟨fun y hy => h0.1 y hy, h0.2⟩
theorem val_put : ∀ {L : List N} (x : N), Rise L → ∀ n, val (put L x) n = if n = x.i then val L n + x.n else val L n
  | [], x, _, n => by
    simp only [put, ins, val]
    by_cases h : n = x.i
    · rw [if_pos h, if_pos h.symm]; omega
    · rw [if_neg h, if_neg (fun e => h e.symm)]
  | a :: l, x, hr, n => by
    have h0 := List.pairwise_cons.1 hr
    have ih := val_put x h0.2 n
    unfold put at *
    rw [ins]
    split
    · rename_i h1
      have hne : a.i ≠ x.i := fun e => by unfold nlt at h1; rw [e, lt_irrefl] at h1; cases h1
      simp only [val, ih]
      by_cases ha : a.i = n
      · rw [if_pos ha, if_neg (fun e => hne (ha.trans e)), if_pos ha]
      · rw [if_neg ha, if_neg ha]
    · rename_i h1
      split
      · rename_i h2
        simp only [val]
        by_cases hx : n = x.i
        · subst hx
          have hn : ∀ y ∈ a :: l, y.i ≠ x.i := by
            intro y hy e
            rcases List.mem_cons.1 hy with rfl | hy
            · unfold nlt at h2; rw [e, lt_irrefl] at h2; cases h2
            · have := lt_trans h2 (h0.1 y hy)
              rw [e, lt_irrefl] at this; cases this
          have hv := val_none hn
          simp only [val] at hv
          rw [if_pos rfl, if_pos rfl, hv]; omega
        · rw [if_neg (fun e => hx e.symm), if_neg hx]
      · rename_i h2
        have e := neq_of (by simpa using h1) (by simpa using h2)
        show (if a.i = n then a.n + x.n else val l n) = if n = x.i then (if a.i = n then a.n else val l n) + x.n else (if a.i = n then a.n else val l n)
        by_cases ha : a.i = n
        · rw [if_pos ha, if_pos ha, if_pos (ha.symm.trans e)]
        · rw [if_neg ha, if_neg ha, if_neg (fun h => ha (e.trans h.symm))]
theorem put_len (L : List N) (x : N) : (put L x).length ≤ L.length + 1 := ins_len L x
theorem put_bd {L : List N} {x : N} {B C : Int} (hB : 0 ≤ B) (hL : ∀ y ∈ L, -B ≤ y.n ∧ y.n ≤ B) (hC : 0 ≤ C) (hx : -C ≤ x.n ∧ x.n ≤ C) : ∀ y ∈ put L x, -(B + C) ≤ y.n ∧ y.n ≤ B + C := by
  unfold put
  induction L with
  | nil => intro y hy; simp [ins] at hy; subst hy; omega
  | cons a l ih =>
    have h1 := hL a (by simp)
    have h2 := ih (fun y hy => hL y (by simp [hy]))
    intro y hy
    rw [ins] at hy
    split at hy
    · rcases List.mem_cons.1 hy with rfl | hy
      · omega
      · exact h2 y hy
    · split at hy
      · rcases List.mem_cons.1 hy with rfl | hy
        · omega
        · have := hL y hy; omega
      · rcases List.mem_cons.1 hy with rfl | hy
        · simp only [addN]; omega
        · have := hL y (by simp [hy]); omega
theorem all_len (L b : List N) (s : Int) : (all L b s).length ≤ L.length + b.length := by
  unfold all
  induction b generalizing L with
  | nil => simp
  | cons x b ih =>
    have h1 := ih (put L (sg s x))
    have h2 := put_len L (sg s x)
    simp only [List.foldl_cons, List.length_cons]
    omega
theorem rise_all {L : List N} (b : List N) (s : Int) (h : Rise L) : Rise (all L b s) := by
  unfold all
  induction b generalizing L with
  | nil => exact h
  | cons x b ih => exact ih (rise_put _ h)
/-- What the Meters of a list that was added to are. -/
theorem all_i (p : ByteArray → Prop) {L : List N} (b : List N) (s : Int) (hL : ∀ y ∈ L, p y.i) (hb : ∀ y ∈ b, p y.i) : ∀ y ∈ all L b s, p y.i := by
  unfold all
  induction b generalizing L with
  | nil => exact hL
  | cons x b ih =>
    have h1 : ∀ y ∈ put L (sg s x), p y.i := ins_all (r := nlt) (f := addN) (fun y : N => p y.i) (fun _ _ h _ => h) L (sg s x) hL (hb x (by simp))
    exact ih h1 (fun y hy => hb y (by simp [hy]))
/-- Lines that rise, put one by one, are themselves. -/
theorem all_self : ∀ (b : List N) (L : List N), Rise (L ++ b) → all L b 1 = L ++ b
  | [], L, _ => by simp [all]
  | x :: b, L, h => by
    have e : put L (sg 1 x) = L ++ [x] := by
      have e1 : sg 1 x = x := by simp [sg]
      rw [e1]
      refine ins_end (z := N.zero) L x (fun j hj => ?_)
      have h2 := (List.pairwise_append.1 h).2.2
      exact h2 _ (getD_mem (z := N.zero) L j hj) x (by simp)
    show all (put L (sg 1 x)) b 1 = _
    rw [e, all_self b (L ++ [x]) (by simpa using h)]
    simp
/-- A Meter as a key. -/
def kS (n : ByteArray) : Lit := .string n.data.toList
theorem kS_inj {a b : ByteArray} (h : kS a = kS b) : a = b := by
  unfold kS at h
  simp only [Lit.string.injEq] at h
  exact ByteArray.ext (Array.ext' h)
theorem kS_key (n : ByteArray) : WideAt.IsKeyLit (kS n) := by
  unfold kS
  first | trivial | exact rfl | (simp [WideAt.IsKeyLit])
/-- A map of numbers by Meters, read as lines that rise. -/
structure NetM (D : DataW Value) (L : List N) : Prop where
  is : Maps.IsMap D
  rise : Rise L
  has : ∀ n, Maps.has D (kS n) = true ↔ ∃ y ∈ L, y.i = n
  nat : ∀ y ∈ L, ∀ z, D.atKey (kS y.i) z = .lit (.int .i64 y.n)
theorem netM_nil : NetM (.map []) [] := ⟨Maps.isMap_empty, List.Pairwise.nil, fun n => by
  rw [Maps.has_eq]
  simp, fun y h => by cases h⟩
theorem NetM.look {D : DataW Value} {L : List N} (h : NetM D L) (n : ByteArray) : D.atKey (kS n) (.lit (.int .i64 0)) = .lit (.int .i64 (val L n)) := by
  by_cases e : ∃ y ∈ L, y.i = n
  · obtain ⟨y, hy, rfl⟩ := e
    rw [h.nat y hy, val_mem h.rise y hy]
  · have h1 : Maps.has D (kS n) = false := by
      cases h2 : Maps.has D (kS n)
      · rfl
      · exact absurd ((h.has n).1 h2) e
    rw [Maps.atKey_of_not_has h1, val_none (fun y hy e2 => e ⟨y, hy, e2⟩)]
theorem NetM.put {D : DataW Value} {L : List N} (h : NetM D L) (x : N) : NetM (D.put (kS x.i) (.lit (.int .i64 (val L x.i + x.n)))) (put L x) := by
  refine ⟨h.is.put _ _, rise_put x h.rise, fun n => ?_, fun y hy z => ?_⟩
  · rw [mem_put]
    by_cases e : n = x.i
    · subst e
      rw [Maps.has_put_same h.is (kS_key _)]
      exact ⟨fun _ => .inl rfl, fun _ => rfl⟩
    · rw [Maps.has_put_other (fun q => e (kS_inj q)), h.has n]
      exact ⟨fun q => .inr q, fun q => q.resolve_left e⟩
  · have hv := val_put x h.rise y.i
    rw [val_mem (rise_put x h.rise) y hy] at hv
    by_cases e : y.i = x.i
    · rw [if_pos e] at hv
      rw [e, Maps.atKey_put_same h.is (kS_key _), hv, e]
    · rw [if_neg e] at hv
      rw [Maps.atKey_put_other (fun q => e (kS_inj q))]
      rcases mem_put.1 ⟨y, hy, rfl⟩ with h1 | ⟨q, hq, h1⟩
      · exact absurd h1 e
      · rw [← h1, h.nat q hq, hv, ← h1, val_mem h.rise q hq]
/-- May none of these numbers be beyond? -/
def ovB (L : List N) : Bool := L.all (fun y => nOk y.n)
theorem NetM.key {D : DataW Value} {L : List N} (h : NetM D L) {kl : Lit} (hs : ∃ x, kl = .string x) (hh : Maps.has D kl = true) : ∃ y ∈ L, kS y.i = kl := by
  obtain ⟨x, rfl⟩ := hs
  have e : (Lit.string x) = kS ⟨x.toArray⟩ := by simp [kS]
  rw [e] at hh ⊢
  obtain ⟨y, hy, h1⟩ := (h.has _).1 hh
  exact ⟨y, hy, by rw [h1]⟩
theorem bl_lt {x y : List UInt8} (h : Op.bytesLess x y = true) : x < y := by
  induction x generalizing y with
  | nil =>
    cases y with
    | nil => simp [Op.bytesLess] at h
    | cons b y => exact List.nil_lt_cons _ _
  | cons a x ih =>
    cases y with
    | nil => simp [Op.bytesLess] at h
    | cons b y =>
      rw [Op.bytesLess] at h
      simp only [Bool.or_eq_true, Bool.and_eq_true, decide_eq_true_eq, beq_iff_eq] at h
      rw [List.cons_lt_cons_iff]
      rcases h with h | ⟨h1, h2⟩
      · exact .inl h
      · exact .inr ⟨h1, ih h2⟩
theorem toL (a : ByteArray) : a.toList = a.data.toList := ByteArray.toList_eq a
/-- The keys of such a map, sorted, are the Meters. -/
theorem NetM.sorted {P : Program} {t : TypeId} (hP : P.underlying t = some .string) {R : Value → Option (DataW Value × List MemPlace)} {w : World} {b n : Nat} {D : DataW Value} (hown : w.ownsMap P t R b n D) {L : List N} (h : NetM D L) {ss : List (List UInt8)} (hss : ss.Perm (strKeys D)) :
    ss.mergeSort (fun x y => decide (x ≤ y)) = L.map (fun y => y.i.data.toList) := by
  have hrise : (L.map (fun y => y.i.data.toList)).Pairwise (fun x y => x < y) := by
    rw [List.pairwise_map]
    exact h.rise.imp (fun {x y} hxy => by unfold lt at hxy; rw [toL, toL] at hxy; exact bl_lt hxy)
  have hnd : (L.map (fun y => y.i.data.toList)).Nodup := hrise.imp (fun {x y} hxy e => by subst e; exact List.lt_irrefl _ hxy)
  obtain ⟨es, hD, hp, hk0⟩ := hown.entries (Maps.string_keyed hP)
  obtain ⟨es', hD', hk1⟩ := hown.keysOf
  have hk : ∀ p ∈ es, ∃ x, p.1 = .string x := by
    rw [hD] at hD'
    simp only [DataW.map.injEq] at hD'
    subst hD'
    intro p hp
    obtain ⟨v, hv⟩ := hk1 p hp
    obtain ⟨x, _, hx, _⟩ := Maps.keyOf_str hP hv
    exact ⟨x, hx⟩
  have hperm : (L.map (fun y => y.i.data.toList)).Perm (strKeys D) := by
    rw [hD]
    refine perm_strKeys hp hk hnd (fun x => ?_)
    rw [← hD]
    have e : (Lit.string x) = kS ⟨x.toArray⟩ := by simp [kS]
    rw [e, h.has, List.mem_map]
    constructor
    · rintro ⟨y, hy, rfl⟩; exact ⟨y, hy, by simp⟩
    · rintro ⟨y, hy, h1⟩; exact ⟨y, hy, by rw [h1]⟩
  have e1 := mergeSort_of_perm (hss.trans hperm.symm)
  refine e1.trans ?_
  refine List.mergeSort_of_pairwise ?_
  exact hrise.imp (fun {x y} hxy => by simpa using List.le_of_lt hxy)
end NetR
end Go.Proofs.YtjfmdcdclifpkaaGreatDoor
namespace Go.Proofs.YtjfmdcdclifpkaaGreatDoor
open Go.ChangeShapes Go.WideShapes Go.ChangeAt Go.RowKit
set_option linter.unusedVariables false
namespace CloneR
theorem hid_intro {p : Prop} (h : p) : Hid p := h
theorem info8 : (Tryz.prog.info? 5).map (fun i => (i.zero, i.size, i.bytes)) = some (some (.int .u8 0), 1, 1) := by kernel_rfl
set_option maxHeartbeats 4000000 in
set_option maxRecDepth 100000 in
theorem lite_any (s : ByteArray) (w : World) (hlim : s.size ≤ 281474976710656) :
    Calls Tryz.prog 200 #[.string s] w fun e w' => e = .returned (.string s) ∧ Below w.heap.size w w' := by
  by_cases h0 : s.size = 0
  · obtain rfl : s = ⟨#[]⟩ := ByteArray.ext (Array.eq_empty_of_size_eq_zero h0)
    go_enter Tryz.func200, Tryz.ntmps200
    go_wp2
    go_ret
    exact ⟨rfl, Below.refl _ _⟩
  · obtain ⟨i0, hi, hz0, hz1, hz2⟩ := info_parts info8
    have hone : (Tryz.prog.info? 5).map (·.size) = some 1 := by rw [hi]; simp [hz1]
    have hcells : Tryz.prog.cellsOf 5 = 1 := by simp [Program.cellsOf, hi, hz1]
    obtain ⟨M, hM⟩ : ∃ M, M = madeCells (Value.int .u8 0).cells (((s.size : Nat) : Int).toNat * i0.size) := ⟨_, rfl⟩
    have hMs : M.size = s.size := by rw [hM, size_madeCells, hz1]; simp
    have hmake : ∀ W : World, (Instr.makeSlice 152 (.int .i64 (s.size : Int)) (.int .i64 (s.size : Int))).run Tryz.prog W = .ok (.slice (some ⟨W.heap.size, 0, none⟩) s.size s.size) (W.alloc (.cells M 5)) := fun W => by
      have h := run_make (P := Tryz.prog) W 152 5 i0 (.int .u8 0) Tryz.underlying152 hi hz0 .i64 .i64 (s.size : Int) (s.size : Int) (by omega) (by omega) (by rw [hz2]; omega) (by omega)
      rw [← hM] at h
      simpa using h
    clear hM
    have hcopy := Lib.run_copy_row_string (P := Tryz.prog) (w.alloc (.cells M 5)) 152 9 3 5 w.heap.size 0 s.size s.size s M 5 Tryz.underlying152 hone (heap_alloc_new w _) (Nat.le_refl _) (by omega)
    obtain ⟨Y, hY⟩ : ∃ Y, Y = (M.toList.take 0 ++ Lib.byteCells s.data.toList ++ M.toList.drop (0 + s.size)).toArray := ⟨_, rfl⟩
    rw [← hY] at hcopy
    have hYl : Y.toList = Lib.byteCells s.data.toList := by
      rw [hY, List.toList_toArray, List.take_zero, List.nil_append, List.drop_of_length_le (by rw [Array.length_toList]; omega), List.append_nil]
    have hYs : Y.size = s.size := by rw [← Array.length_toList, hYl, Lib.byteCells_length, ← Lib.size_eq]
    have hg : ((w.alloc (.cells M 5)).setRow w.heap.size Y).heap[w.heap.size]? = some (.cells Y 5 (0, 0)) := setRow_heap _ _ M _ 5 (0, 0) (heap_alloc_new w _)
    have hne : s.data.toList ≠ [] := fun e => h0 (by rw [Lib.size_eq, e]; rfl)
    have hstr := Lib.run_unsafeString_row (P := Tryz.prog) ((w.alloc (.cells M 5)).setRow w.heap.size Y) 279 3 9 5 Tryz.underlying279 hcells w.heap.size Y.size (by unfold World.shape?; rw [hg]) s.data.toList hne (by rw [← Lib.size_eq]; omega) (by rw [← Lib.size_eq]; omega)
      (fun j x hx => Lib.cells_of_row hg Y.size j _ (by rw [List.take_of_length_le (by rw [Array.length_toList]; exact Nat.le_refl _), hYl]; simp [Lib.byteCells, hx]))
    rw [← Lib.size_eq] at hstr
    clear hY
    go_enter Tryz.func200, Tryz.ntmps200
    go_wp2
    go_ret
    have b1 : Below w.heap.size w (w.alloc (.cells M 5)) := (Below.refl _ w).alloc (Nat.le_refl _) _
    have b2 : Below w.heap.size (w.alloc (.cells M 5)) ((w.alloc (.cells M 5)).setRow w.heap.size Y) := ⟨rfl, rfl, rfl, by simp, fun k hk => setRow_other _ _ _ _ (by omega)⟩
    exact ⟨rfl, Lib.below_freeze (b1.trans b2) (p := ⟨w.heap.size, 0, none⟩) (Nat.le_refl _) _⟩
theorem clone_any (s : ByteArray) (w : World) (hlim : s.size ≤ 281474976710656) :
    Calls Tryz.prog 154 #[.string s] w fun e w' => e = .returned (.string s) ∧ Below w.heap.size w w' := by
  have H := hid_intro (fun w => lite_any s w hlim)
  go_enter Tryz.func154, Tryz.ntmps154
  go_wp2_with (go_at_call 200; refine (H.out _).mono ?_; rintro e w1 ⟨rfl, hb⟩)
  go_ret
  exact ⟨rfl, hb⟩
end CloneR
end Go.Proofs.YtjfmdcdclifpkaaGreatDoor
namespace Go.Proofs.YtjfmdcdclifpkaaGreatDoor
open Go.ChangeShapes Go.WideShapes Go.ChangeAt Go.RowKit
set_option linter.unusedVariables false
namespace LinR
open RowG LtR
/-- append to a list of one's own, as one step of a region that draws. -/
theorem step_append_own {P : Program} {w : World} {ops : Array Oper} {o : Oper} {a : Act} {K : Act → World → Prop} {Q : Exit → Act → World → Prop} {E : Prop} (hgd : o.guard = none) (s x : Operand) (t : TypeId)
    (ho : o.op = .call { callee := .builtin .append, args := #[s, x], argTypes := #[t, t] })
    (base : Nat) (e : TypeId) (i : TypeInfo) (z : Value) (size bytes : Nat) (ht : P.underlying t = some (.slice e)) (hi : P.info? e = some i) (hz : i.zero = some z)
    (hsize : i.size = size) (hby : i.bytes = bytes) (hzs : z.cells.size = size) (hsz : 0 < size)
    (v : Value) (n : Nat) (xs : List Value) (hs : a.eval s = v) (hown : w.ownsRow base e size v n xs)
    (ad : Addr) (m c : Nat) (news : List Value) (hx : a.eval x = .slice (some ad) m c) (hl : news.length = m * size) (hnews : ∀ j u, news[j]? = some u → w.cell? (ad.add j) = some u) (h1 : ∀ u ∈ news, u.oneCell' = true)
    (h63 : n + m ≤ maxLen) (hbytes : (n + m) * bytes ≤ 140737488355328) (hbase : base ≤ w.heap.size)
    (h : ∀ v' w', w'.ownsRow base e size v' (n + m) (xs ++ news) → w.grownBy w' v.ownBlock → (v' = .slice none 0 0 ↔ v = .slice none 0 0 ∧ m = 0) → K (a.put o.dst v') w') : if Region.wanted o (yielded ops a.tmps) = true then Oper.wp P o a w K Q else E := by
  have hw : Region.wanted o (yielded ops a.tmps) = true := by simp [Region.wanted, hgd]
  rw [if_pos hw]
  exact wp_append_own w s x t ho base e i z size bytes ht hi hz hsize hby hzs hsz v n xs hs hown ad m c news hx hl hnews h1 h63 hbytes hbase h
theorem own_drew {w : World} {base e size n : Nat} {v : Value} {xs : List Value} (h : w.ownsRow base e size v n xs) : w.drew.ownsRow base e size v n xs := h
theorem own_low {w : World} {base base' e size n : Nat} {v : Value} {xs : List Value} (h : w.ownsRow base e size v n xs) (hb : base' ≤ base) : w.ownsRow base' e size v n xs := by
  refine ⟨h.1, ?_⟩
  rcases h.2 with hn | ⟨g, cap, cur, rfl, h1, rest⟩
  · exact .inl hn
  · exact .inr ⟨g, cap, cur, rfl, by omega, rest⟩
theorem own_empty (w : World) (base e size : Nat) (hb : base ≤ w.heap.size) : (w.alloc (.cells #[] e)).ownsRow base e size (.slice (some ⟨w.heap.size, 0, none⟩) 0 0) 0 [] :=
  World.ownsRow_made w #[] 0 hb (by unfold maxLen; omega) (by simp)
/-- What is held while a line is put. -/
def BM2 (w : World) (B : Nat) (a0 a1 : Value) (W : World) : Prop := Below w.heap.size w W ∧ B < W.heap.size ∧ W.cell? ⟨B, 0, none⟩ = some a0 ∧ W.cell? ⟨B, 1, none⟩ = some a1
theorem BM2.below {w : World} {B : Nat} {a0 a1 : Value} {W W' : World} (h : BM2 w B a0 a1 W) (hb : Below W.heap.size W W') : BM2 w B a0 a1 W' := by
  obtain ⟨h0, l1, p0, p1⟩ := h
  have f := fun o => hb.cell (p := ⟨B, o, none⟩) l1
  have hs := hb.size
  exact ⟨h0.trans (hb.mono h0.size), by omega, (f 0).trans p0, (f 1).trans p1⟩
theorem BM2.drew {w : World} {B : Nat} {a0 a1 : Value} {W : World} (h : BM2 w B a0 a1 W) : BM2 w B a0 a1 W.drew := ⟨h.1.drew, h.2⟩
theorem BM2.grown {w : World} {B : Nat} {a0 a1 : Value} {W W' : World} {v : Value} {wr : World} {base e size n : Nat} {xs : List Value} (h : BM2 w B a0 a1 W) (hg : W.grownBy W' v.ownBlock) (ho : wr.ownsRow base e size v n xs) (hB : B = wr.heap.size := by rfl) (hbase : w.heap.size ≤ base := by omega) : BM2 w B a0 a1 W' := by
  obtain ⟨h0, l1, p0, p1⟩ := h
  have hne : some B ≠ v.ownBlock := fun e => by have := (ho.lt B e.symm).2; omega
  have e := hg.block B l1 hne
  exact ⟨h0.grown hg h0.size (fun k e => by have := (ho.lt k e).1; omega), by have := hg.size; omega, (World.cell?_of_block (a := ⟨B, 0, none⟩) e).trans p0, (World.cell?_of_block (a := ⟨B, 1, none⟩) e).trans p1⟩
theorem two_cells (W : World) (i : ByteArray) (n : Int) (T : TypeId) : ∀ (j : Nat) u, (N.cells ⟨i, n⟩)[j]? = some u → (W.alloc (.cells #[.string i, .int .i64 n] T)).cell? ((⟨W.heap.size, 0, none⟩ : Addr).add j) = some u := by
  intro j u hx
  have hx2 : j < 2 := by
    have := (List.getElem?_eq_some_iff.1 hx).1
    simpa [N.cells] using this
  match j, hx2, hx with
  | 0, _, hx => simp [N.cells] at hx; subst hx; simp [Addr.add, go_sem]
  | 1, _, hx => simp [N.cells] at hx; subst hx; simp [Addr.add, go_sem]
theorem two_one (x : N) : ∀ u ∈ N.cells x, u.oneCell' = true := by
  intro u hu
  simp only [N.cells, List.mem_cons, List.not_mem_nil, or_false] at hu
  rcases hu with rfl | rfl <;> rfl
theorem filter_more (p : N → Bool) (xs : List N) (k : Nat) (h : k < xs.length) : (xs.take (k + 1)).filter p = (xs.take k).filter p ++ (bif p (xs.getD k N.zero) then [xs.getD k N.zero] else []) := by
  rw [take_more (z := N.zero) xs k h, List.filter_append]
  generalize xs.getD k N.zero = X
  cases hr : p X <;> simp [hr]
/-- What is not 0. -/
def nz (x : N) : Bool := decide (x.n ≠ 0)
theorem nz_cases (i : ByteArray) (n : Int) : ((n == 0) = true ∧ (n != 0) = false ∧ nz ⟨i, n⟩ = false) ∨ ((n == 0) = false ∧ (n != 0) = true ∧ nz ⟨i, n⟩ = true) := by
  unfold nz
  by_cases h : n = 0
  · exact .inl ⟨by simpa using h, by simpa using h, by simpa using h⟩
  · exact .inr ⟨by simpa using h, by simpa using h, by simpa using h⟩
set_option maxRecDepth 100000 in
set_option maxHeartbeats 4000000 in
theorem put_any (ao : Option Addr) (cap : Nat) (es : List N) (w : World) (hlen : es.length ≤ 1048576) (hS : ∀ e ∈ es, e.i.size ≤ 1048576) (hI : Lis ao es w) :
    Calls Tryz.prog 145 #[.slice ao es.length cap] w fun e w' => ∃ v, e = .returned v ∧ w'.ownsRow w.heap.size 72 2 v (es.filter nz).length (cellsAll N.cells (es.filter nz)) ∧ Below w.heap.size w w' := by
  obtain ⟨i0, hi, hz0, hz1, hz2⟩ := info_parts infoN
  have HI := hid_intro hI
  have HS := hid_intro hS
  obtain ⟨len, hl⟩ : ∃ len, len = es.length := ⟨_, rfl⟩
  rw [← hl] at hlen ⊢
  have HL := hid_intro hl
  clear hI hS hl
  go_enter Tryz.func145, Tryz.ntmps145
  go_wp2_with fail
  go_loopw [3, 8] (fun v z wr => ∃ k : Nat, k ≤ len ∧ z = .int .i64 k ∧ Hid (wr.ownsRow w.heap.size 72 2 v ((es.take k).filter nz).length (cellsAll N.cells ((es.take k).filter nz))) ∧ Hid (Below w.heap.size w wr)) (fun v z _ => len - (intOf z).toNat)
  case atStart => exact ⟨0, by omega, rfl, hid_intro (World.ownsRow_nil _ _ _ _), hid_intro (Below.refl _ _)⟩
  case round =>
    obtain ⟨k, hk, rfl, HO, HB⟩ := hrel
    by_cases hlt : k < len
    · have hlt2 : (k : Int) < (len : Int) := by omega
      obtain ⟨b, off, rfl, hbl, c0, c1⟩ := (HI.out.below HB.out).at k (by have := HL.out; omega)
      have hsz := HS.out _ (getD_mem (z := N.zero) es k (by have := HL.out; omega))
      have HF := hid_intro (filter_more nz es k (by have := HL.out; omega))
      have HLF : Hid (((es.take k).filter nz).length ≤ 1048576) := hid_intro (by
        have h1 := List.length_filter_le nz (es.take k)
        have h2 := List.length_take_le k es
        omega)
      obtain ⟨F, hF⟩ : ∃ F, F = (es.take k).filter nz := ⟨_, rfl⟩
      rw [← hF] at HO HF HLF
      clear hF
      generalize es.getD k N.zero = X at *
      obtain ⟨xi, xn⟩ := X
      dsimp only at c0 c1 hsz
      rcases nz_cases xi xn with ⟨q1, q2, q3⟩ | ⟨q1, q2, q3⟩
      · rw [q3] at HF
        go_wp2_with fail
        go_roundw
        case rel => exact ⟨k + 1, by omega, by go_num, hid_intro (by rw [HF.out, cond_false, List.append_nil]; exact HO.out.alloc _), hid_intro (HB.out.alloc HB.out.size _)⟩
        case measure => simp [intOf]; omega
      · rw [q3] at HF
        have HCL := hid_intro (fun w => CloneR.clone_any xi w (by omega))
        have HAl : Hid (BM2 w wr.heap.size (.string xi) (.int .i64 xn) (wr.alloc (.cells #[.string xi, .int .i64 xn] 72))) := hid_intro ⟨HB.out.alloc HB.out.size _, by simp, by simp [go_sem], by simp [go_sem]⟩
        have HAd := hid_intro HAl.out.drew
        have HOA := hid_intro (own_drew (HO.out.alloc (.cells #[.string xi, .int .i64 xn] 72)))
        have sz1 : F.length + 1 ≤ maxLen := by unfold maxLen; have := HLF.out; omega
        have sz2 : (F.length + 1) * 24 ≤ 140737488355328 := by have := HLF.out; omega
        have sz3 : 0 < 2 := by omega
        go_wp2_with fail
        go_region_held3 (fun W => Below w.heap.size w W ∧ wr.heap.size < W.heap.size ∧ W.cell? ⟨wr.heap.size, 0, none⟩ = some (.string xi) ∧ W.cell? ⟨wr.heap.size, 1, none⟩ = some (.int .i64 xn))
          (first | assumption | (exact HAl.out) | (exact HAd.out) | (exact BM2.below (w := w) (B := wr.heap.size) (by assumption) hb1) | (exact BM2.below (w := w) (B := wr.heap.size) (by assumption) ((Below.refl _ _).alloc (Nat.le_refl _) _)) | (exact BM2.grown (w := w) (B := wr.heap.size) (by assumption) hgrow HO.out rfl (Nat.le_refl _)))
          (first | (go_at_call 154; refine (HCL.out _).mono ?_; rintro e w1 ⟨rfl, hb1⟩; have HO1 := hid_intro (own_below HOA.out hb1); have HS1 : Hid (w.heap.size ≤ w1.heap.size) := hid_intro (Nat.le_trans HAd.out.1.size hb1.size)) | (refine step_append_own rfl _ _ 33 rfl w.heap.size 72 i0 (.agg #[.string ⟨#[]⟩, .int .i64 0]) 2 24 Tryz.underlying33 hi hz0 hz1 hz2 rfl sz3 _ _ _ rfl (HO1.out.alloc _) ⟨w1.heap.size, 0, none⟩ 1 1 (N.cells ⟨xi, xn⟩) rfl rfl (two_cells _ _ _ _) (two_one _) sz1 sz2 (Nat.le_trans HS1.out (by simp)) ?_; intro v' w4 hown hgrow hne))
        rename_i hS
        have HB4 := hid_intro hS.1
        have HO4 : Hid (w4.ownsRow w.heap.size 72 2 v' (F ++ [(⟨xi, xn⟩ : N)]).length (cellsAll N.cells (F ++ [(⟨xi, xn⟩ : N)]))) := hid_intro (by rw [cellsAll_app, List.length_append]; exact hown)
        clear hown hgrow hne hS
        go_wp2_with fail
        go_roundw
        case rel => exact ⟨k + 1, by omega, by go_num, hid_intro (by rw [HF.out, cond_true]; exact HO4.out), HB4⟩
        case measure => simp [intOf]; omega
    · have hlt2 : ¬ (k : Int) < (len : Int) := by omega
      obtain rfl : k = len := by omega
      have HE : Hid (es.take k = es) := hid_intro (List.take_of_length_le (by have := HL.out; omega))
      rw [HE.out] at HO
      go_wp2_with fail
      go_ret
      exact ⟨_, rfl, HO.out, HB.out⟩
end LinR
end Go.Proofs.YtjfmdcdclifpkaaGreatDoor
