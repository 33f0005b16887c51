/-
  Why an entry can't be taken, and what is kept of an event. The conditions: the texts' lengths.
-/
import Derived.Test.YtbhabplchcigfaaEnH
import Derived.Test.YtbhabplchcigfaaEnD
import Derived.Test.YtbhabplchcigfaaSlIns
import Derived.Test.YtbhabplchcigfaaEvtBytes
import Derived.Test.YtbhabplchcigfaaCrc
namespace Go.Proofs.Ytbhabplchcigfaa
open Go.ChangeShapes Go.WideShapes Go.ChangeAt Go.RowKit
set_option linter.unusedVariables false
namespace SeenR
open RowG WordR LtR
open EvtR (ev evB evT Pt)
/-- Is there one of this Id? -/
def thereB (es : List N) (id : ByteArray) : Bool := decide (pos es id < es.length) && ((es.getD (pos es id) N.zero).i.toList == id.toList)
/-- The code of an entry that is to be laid in. -/
def codeOf (es : List N) (x : N) : Int := bif thereB es x.i then (if (es.getD (pos es x.i) N.zero).n = x.n ∧ (es.getD (pos es x.i) N.zero).s = x.s then 7 else 11) else (if es.length < 40 then 0 else 9)
set_option maxHeartbeats 4000000 in
theorem code_any (es : List N) (x : N) (w : World) (hl : es.length ≤ 40) : Calls Try.prog 23 #[sight es x.i, .agg #[.string x.i, .int .i64 x.n, .int .i64 x.s], .int .i64 es.length] w fun e w' => e = .returned (.int .i64 (codeOf es x)) ∧ Below w.heap.size w w' := by
  obtain ⟨xi, xn, xs⟩ := x
  have HB := hid_intro ((Below.refl w.heap.size w).alloc (Nat.le_refl _) (Obj.cells #[.string xi, .int .i64 xn, .int .i64 xs] 40))
  unfold sight codeOf thereB
  dsimp only
  generalize pos es xi = k
  obtain ⟨Y, hY⟩ : ∃ Y, Y = es.getD k N.zero := ⟨_, rfl⟩
  rw [← hY]
  clear hY
  obtain ⟨yi, yn, ys⟩ := Y
  dsimp only
  have HE : Hid ((decide (k < es.length) && (yi.toList == xi.toList)) = true → yi = xi) := hid_intro (fun h => by
    rw [Bool.and_eq_true, beq_iff_eq] at h
    exact toList_inj h.2)
  generalize (decide (k < es.length) && (yi.toList == xi.toList)) = b at *
  generalize es.length = len at *
  cases b
  · rw [cond_false, cond_false]
    have hn := fun w => as_no (.agg #[.int .i64 k]) w
    by_cases h40 : len < 40
    · rw [if_pos h40]
      have h40' : ¬ (40 : Int) ≤ (len : Int) := by omega
      go_enter Try.func23, Try.ntmps23
      go_wp2_with fail
      go_ret
      exact ⟨rfl, HB.out⟩
    · rw [if_neg h40]
      have h40' : (40 : Int) ≤ (len : Int) := by omega
      go_enter Try.func23, Try.ntmps23
      go_wp2_with fail
      go_ret
      exact ⟨rfl, HB.out⟩
  · rw [cond_true, cond_true]
    obtain rfl := HE.out rfl
    have hy := fun w => as_yes (.agg #[.int .i64 k, .string yi, .int .i64 yn, .int .i64 ys]) w
    by_cases h1 : yn = xn ∧ ys = xs
    · rw [if_pos h1]
      obtain ⟨rfl, rfl⟩ := h1
      go_enter Try.func23, Try.ntmps23
      go_wp2_with fail
      go_ret
      exact ⟨rfl, HB.out.alloc HB.out.size _⟩
    · rw [if_neg h1]
      by_cases h2 : yn = xn
      · subst h2
        have h3 : ¬ ys = xs := fun e => h1 ⟨rfl, e⟩
        have h4 : (ys == xs) = false := by simpa using h3
        clear h1
        go_enter Try.func23, Try.ntmps23
        go_wp2_with fail
        go_ret
        exact ⟨rfl, HB.out.alloc HB.out.size _⟩
      · have h4 : (yn == xn) = false := by simpa using h2
        clear h1
        go_enter Try.func23, Try.ntmps23
        go_wp2_with fail
        go_ret
        exact ⟨rfl, HB.out.alloc HB.out.size _⟩
/-- An event in its box, and the block that is handed back. -/
def BoxT (w : World) (i a m : ByteArray) (n k : Int) (t : ByteArray) (W : World) : Prop := Below w.heap.size w W ∧ w.heap.size + 1 < W.heap.size ∧ W.cell? ⟨w.heap.size, 0, none⟩ = some (.string i) ∧ W.cell? ⟨w.heap.size, 1, none⟩ = some (.string a) ∧ W.cell? ⟨w.heap.size, 2, none⟩ = some (.string m) ∧ W.cell? ⟨w.heap.size, 3, none⟩ = some (.int .i64 n) ∧ W.cell? ⟨w.heap.size, 4, none⟩ = some (.int .i64 k) ∧ W.cell? ⟨w.heap.size, 5, none⟩ = some (.string t) ∧ Pt (w.heap.size + 1) 3 W
theorem BoxT.below {w : World} {i a m : ByteArray} {n k : Int} {t : ByteArray} {W W' : World} (h : BoxT w i a m n k t W) (hb : Below W.heap.size W W') : BoxT w i a m n k t W' := by
  obtain ⟨h0, l, p0, p1, p2, p3, p4, p5, r⟩ := h
  have f := fun o => hb.cell (p := ⟨w.heap.size, o, none⟩) (by show w.heap.size < W.heap.size; omega)
  exact ⟨h0.trans (hb.mono h0.size), by have := hb.size; omega, (f 0).trans p0, (f 1).trans p1, (f 2).trans p2, (f 3).trans p3, (f 4).trans p4, (f 5).trans p5, r.below hb⟩
theorem BoxT.put {w : World} {i a m : ByteArray} {n k : Int} {t : ByteArray} {W : World} (h : BoxT w i a m n k t W) (o : Nat) (v : Value) : BoxT w i a m n k t (W.setCell ⟨w.heap.size + 1, o, none⟩ v) := by
  obtain ⟨h0, l, p0, p1, p2, p3, p4, p5, r⟩ := h
  have f : ∀ q, (W.setCell ⟨w.heap.size + 1, o, none⟩ v).cell? ⟨w.heap.size, q, none⟩ = W.cell? ⟨w.heap.size, q, none⟩ := fun q => by simp [go_sem]
  exact ⟨h0.setCell (by show w.heap.size ≤ w.heap.size + 1; omega) _, by simpa using l, (f 0).trans p0, (f 1).trans p1, (f 2).trans p2, (f 3).trans p3, (f 4).trans p4, (f 5).trans p5, r.set _ _⟩
theorem BoxT.start (w : World) (i a m : ByteArray) (n k : Int) (t : ByteArray) (T T' : TypeId) : BoxT w i a m n k t (((w.alloc (.cells #[.string i, .string a, .string m, .int .i64 n, .int .i64 k, .string t] T)).alloc (.cells #[.string ⟨#[]⟩, .int .i64 0, .int .i64 0] T')).drew) := by
  refine ⟨(((Below.refl _ _).alloc (Nat.le_refl _) _).alloc (by simp) _).drew, by simp, by simp [go_sem], by simp [go_sem], by simp [go_sem], by simp [go_sem], by simp [go_sem], by simp [go_sem], by simp, fun o ho => ?_, fun o ho => by simp [go_sem]⟩
  match o, ho with
  | 0, _ => exact ⟨.string ⟨#[]⟩, by simp [go_sem]⟩
  | 1, _ => exact ⟨.int .i64 0, by simp [go_sem]⟩
  | 2, _ => exact ⟨.int .i64 0, by simp [go_sem]⟩
theorem BoxT.out {w : World} {i a m : ByteArray} {n k : Int} {t : ByteArray} {W : World} (h : BoxT w i a m n k t W) : ∃ v0 v1 v2, W.cell? ⟨w.heap.size + 1, 0, none⟩ = some v0 ∧ W.cell? ⟨w.heap.size + 1, 1, none⟩ = some v1 ∧ W.cell? ⟨w.heap.size + 1, 2, none⟩ = some v2 ∧ W.frozen? ⟨w.heap.size + 1, 0, none⟩ = false ∧ W.frozen? ⟨w.heap.size + 1, 1, none⟩ = false ∧ W.frozen? ⟨w.heap.size + 1, 2, none⟩ = false := by
  obtain ⟨_, _, _, _, _, _, _, _, r⟩ := h
  obtain ⟨v0, h0⟩ := r.has 0 (by omega)
  obtain ⟨v1, h1⟩ := r.has 1 (by omega)
  obtain ⟨v2, h2⟩ := r.has 2 (by omega)
  exact ⟨v0, v1, v2, h0, h1, h2, r.free 0 (by omega), r.free 1 (by omega), r.free 2 (by omega)⟩
theorem evT_size {i a m : ByteArray} {n k : Int} {t : ByteArray} (he : evB i a m n k t = true) : (evT i a m n k t).size ≤ 8000 := by
  obtain ⟨h0, h1, h2, h3, h4, h5, h6, h7, h8⟩ := EvtR.right_ev he
  have z := fun (s : ByteArray) (hs : s.size ≤ 20) => (show (EvtR.txtB s).size ≤ 40 by unfold EvtR.txtB; have := NumR.numB_size (n := s.size) (by omega); rw [ByteArray.size_append]; omega)
  have zn := fun (x : Int) (hx : 0 ≤ x ∧ x ≤ 1000000000) => (show (NumR.numB x).size ≤ 40 by have := NumR.numB_size (n := x) (by omega); omega)
  have a1 := z i h1
  have a2 := z a h2
  have a3 := z m h3
  have a4 := zn n (by omega)
  have a5 := zn k (by omega)
  have a6 := z t (by omega)
  unfold evT
  simp only [ByteArray.size_append]
  omega
/-- What is kept of an event. -/
def enOf (i a m : ByteArray) (n k : Int) (t : ByteArray) : N := ⟨i, n, CrcR.crcV 0 (evT i a m n k t)⟩
set_option maxRecDepth 100000 in
set_option maxHeartbeats 4000000 in
theorem entry_any (i a m : ByteArray) (n k : Int) (t : ByteArray) (w : World) (he : evB i a m n k t = true) (hi : i.size ≤ 1048576) (ha : a.size ≤ 1048576) (hm : m.size ≤ 1048576) (ht : t.size ≤ 1048576) :
    Calls Try.prog 21 #[ev i a m n k t] w fun e w' => e = .returned (.agg #[.string i, .int .i64 n, .int .i64 (CrcR.crcV 0 (evT i a m n k t))]) ∧ Below w.heap.size w w' := by
  have H1 := hid_intro (fun w => CloneR.clone_any i w (by omega))
  have H2 := hid_intro (fun w => EvtR.impl_bytes (n := n) (k := k) hi ha hm ht w)
  rw [if_pos he] at H2
  have H3 := hid_intro (fun w => CrcR.impl_crc (evT i a m n k t) w (evT_size he))
  generalize evT i a m n k t = T at *
  generalize CrcR.crcV 0 T = C at *
  unfold ev at *
  go_enter Try.func21, Try.ntmps21
  go_wp2_with fail
  have HT0 : Hid (BoxT w i a m n k t (((w.alloc (.cells #[.string i, .string a, .string m, .int .i64 n, .int .i64 k, .string t] 25)).alloc (.cells #[.string ⟨#[]⟩, .int .i64 0, .int .i64 0] 40)).drew)) := hid_intro (BoxT.start w i a m n k t _ _)
  go_region_held3 (fun W => Below w.heap.size w W ∧ w.heap.size + 1 < W.heap.size ∧ W.cell? ⟨w.heap.size, 0, none⟩ = some (.string i) ∧ W.cell? ⟨w.heap.size, 1, none⟩ = some (.string a) ∧ W.cell? ⟨w.heap.size, 2, none⟩ = some (.string m) ∧ W.cell? ⟨w.heap.size, 3, none⟩ = some (.int .i64 n) ∧ W.cell? ⟨w.heap.size, 4, none⟩ = some (.int .i64 k) ∧ W.cell? ⟨w.heap.size, 5, none⟩ = some (.string t) ∧ Pt (w.heap.size + 1) 3 W) (first | assumption | (exact HT0.out) | (exact BoxT.below (w := w) (i := i) (a := a) (m := m) (n := n) (k := k) (t := t) (by assumption) hb) | (exact BoxT.put (w := w) (i := i) (a := a) (m := m) (n := n) (k := k) (t := t) (BoxT.put (w := w) (i := i) (a := a) (m := m) (n := n) (k := k) (t := t) (BoxT.put (w := w) (i := i) (a := a) (m := m) (n := n) (k := k) (t := t) (by assumption) _ _) _ _) _ _))
    (first | (go_at_call 46; refine (H1.out _).mono ?_; rintro e w' ⟨rfl, hb⟩; obtain ⟨v0, v1, v2, r0, r1, r2, z0, z1, z2⟩ := BoxT.out (w := w) (i := i) (a := a) (m := m) (n := n) (k := k) (t := t) (BoxT.below (w := w) (i := i) (a := a) (m := m) (n := n) (k := k) (t := t) (by first | assumption | exact HT0.out) hb)) | (go_at_call 48; refine (H2.out _).mono ?_; rintro e w' ⟨rfl, hb⟩; obtain ⟨v0, v1, v2, r0, r1, r2, z0, z1, z2⟩ := BoxT.out (w := w) (i := i) (a := a) (m := m) (n := n) (k := k) (t := t) (BoxT.below (w := w) (i := i) (a := a) (m := m) (n := n) (k := k) (t := t) (by first | assumption | exact HT0.out) hb)) | (go_at_call 47; refine (H3.out _).mono ?_; rintro e w' ⟨rfl, rfl⟩; have hb := Below.refl w'.heap.size w'))
  rename_i hS
  have HB := hid_intro hS.1
  have hlt := hS.2.1
  clear hS
  go_wp2_with fail
  refine bodyPost_ret (v := .agg #[.string i, .int .i64 n, .int .i64 C]) (by simp [results, Try.results21, go_sem, r0, r1, r2]) rfl ⟨rfl, HB.out⟩
theorem copy_any (ao : Option Addr) (cap : Nat) (es : List N) (w : World) (hlen : es.length ≤ 40) (hS : ∀ e ∈ es, e.i.size ≤ 1048576) (hI : Ens ao es w) :
    Calls Try.prog 25 #[.slice ao es.length cap] w fun e w' => ∃ v, e = .returned v ∧ w'.ownsRow w.heap.size 40 3 v es.length (cellsAll N.cells es) ∧ Below w.heap.size w w' := by
  have he : ∀ args w, (callFunc 51 args).run Try.prog w = .ok (.enter 51 args) w := fun args w => by simp [go_sem]
  have hf : es.filter (fun _ => true) = es := by simp
  have HK := keep_any ao cap es (fun _ => true) 51 #[] w hlen hS hI (fun x W _ => by
    obtain ⟨xi, xn, xs⟩ := x
    show Calls Try.prog 51 #[.agg #[.string xi, .int .i64 xn, .int .i64 xs]] W _
    go_enter Try.func51, Try.ntmps51
    go_wp2_with fail
    go_ret
    exact ⟨rfl, by first | exact (Below.refl _ _).alloc (Nat.le_refl _) _ | exact Below.refl _ _⟩) he
  rw [hf] at HK
  replace HK := hid_intro HK
  generalize es.length = len at *
  clear hI hS he hf
  go_enter Try.func25, Try.ntmps25
  go_wp2_with fail
  refine HK.out.mono ?_
  rintro e w1 ⟨v, rfl, ho, hb⟩
  have HO := hid_intro ho
  have HB := hid_intro hb
  clear ho hb
  go_wp2_with fail
  go_ret
  exact ⟨_, rfl, HO.out, HB.out⟩
/-- What is handed back, with its code. -/
def ResT (w : World) (l : List N) (c : Int) (e : Ending) (w' : World) : Prop := ∃ ao cap, e = .returned (.agg #[.slice ao l.length cap, .int .i64 c]) ∧ MadeG 3 N.cells N.zero w.heap.size ao l w' ∧ Below w.heap.size w w'
/-- What is taken, and the code. -/
def takeL (es : List N) (x : N) : List N := if codeOf es x = 0 then insAt es (pos es x.i) x else []
def takeAll (es : List N) (r : Bool) (x : N) : List N := bif sB es && r then takeL es x else []
def codeAll (es : List N) (r : Bool) (x : N) : Int := if 400 < es.length then 2 else (bif sB es && r then codeOf es x else 1)
theorem place_any (k : Int) (w : World) : Calls Try.prog 93 #[.agg #[.int .i64 k]] w fun e w' => e = .returned (.int .i64 k) ∧ Below w.heap.size w w' := by
  go_enter Try.func93, Try.ntmps93
  go_wp2_with fail
  go_ret
  exact ⟨rfl, by first | exact (Below.refl _ _).alloc (Nat.le_refl _) _ | exact Below.refl _ _⟩
end SeenR
end Go.Proofs.Ytbhabplchcigfaa
