/-
  SeenTake, the program's. The conditions: at most 1048576 entries; texts of at most 1048576 bytes.
-/
import Derived.Test.YtbhabplchcigfaaEnT
import Derived.Test.YtbhabplchcigfaaBlk
import Derived.Deep.RegionHeld
namespace Go.Proofs.Ytbhabplchcigfaa
open Go.ChangeShapes Go.WideShapes Go.ChangeAt Go.RowKit
set_option linter.unusedVariables false
namespace SeenR
open RowG WordR LtR
open EvtR (ev evB evT Pt)
open CatR (Blk)
theorem out_pt (w : World) (T : TypeId) : Pt w.heap.size 2 (w.alloc (.cells #[.slice none 0 0, .int .i64 0] T)) := by
  refine ⟨by simp, fun o ho => ?_, fun o ho => by simp [go_sem]⟩
  match o, ho with
  | 0, _ => exact ⟨.slice none 0 0, by simp [go_sem]⟩
  | 1, _ => exact ⟨.int .i64 0, by simp [go_sem]⟩
theorem Pt.alloc {g m : Nat} {w : World} (h : Pt g m w) (o : Obj) : Pt g m (w.alloc o) := h.below ((Below.refl _ _).alloc (Nat.le_refl _) _)
theorem al (w : World) (o : Obj) : Below w.heap.size w (w.alloc o) := (Below.refl _ _).alloc (Nat.le_refl _) _
set_option maxHeartbeats 4000000 in
theorem impl_take_big (ao : Option Addr) (cap len : Nat) (e : Value) (i a m : ByteArray) (n k : Int) (t : ByteArray) (w : World) (hl : 400 < len) (hl2 : len ≤ 1048576) :
    Calls Try.prog 5 #[.slice ao len cap, ev i a m n k t] w fun e w' => ResT w [] 2 e w' := by
  have h1 : (400 : Int) < (len : Int) := by omega
  unfold ev
  go_enter Try.func5, Try.ntmps5
  go_wp2_with fail
  refine bodyPost_ret (v := .agg #[.slice none 0 0, .int .i64 2]) (by simp [results, Try.results5, go_sem]) rfl ⟨none, 0, rfl, made_nil _ _ _, ?_⟩
  repeat' first | exact Below.refl _ _ | apply Below.setCell | apply Below.alloc
  all_goals first | omega | (simp; done) | (simp; omega)
set_option maxHeartbeats 4000000 in
theorem impl_take_form (ao : Option Addr) (cap len : Nat) (i a m : ByteArray) (n k : Int) (t : ByteArray) (w : World) (r1 r2 : Bool) (hr : (r1 && r2) = false) (hl2 : len ≤ 400)
    (h1 : ∀ W, Below w.heap.size w W → Calls Try.prog 14 #[.slice ao len cap] W fun e w' => e = .returned (.bool r1) ∧ Below W.heap.size W w')
    (h2 : ∀ W, Calls Try.prog 20 #[ev i a m n k t] W fun e w' => e = .returned (.bool r2) ∧ Below W.heap.size W w') :
    Calls Try.prog 5 #[.slice ao len cap, ev i a m n k t] w fun e w' => ResT w [] 1 e w' := by
  have hl : ¬ (400 : Int) < (len : Int) := by omega
  have H1 := hid_intro h1
  have H2 := hid_intro h2
  have HB0 : Hid (Below w.heap.size w ((w.alloc (.cells #[.string i, .string a, .string m, .int .i64 n, .int .i64 k, .string t] 25)).alloc (.cells #[.slice none 0 0, .int .i64 0] 29))) := hid_intro (((Below.refl _ _).alloc (Nat.le_refl _) _).alloc (by simp) _)
  have HE0 : Hid (Blk w.heap.size [.string i, .string a, .string m, .int .i64 n, .int .i64 k, .string t] ((w.alloc (.cells #[.string i, .string a, .string m, .int .i64 n, .int .i64 k, .string t] 25)).alloc (.cells #[.slice none 0 0, .int .i64 0] 29))) := hid_intro ((Blk.new w [.string i, .string a, .string m, .int .i64 n, .int .i64 k, .string t] 25).alloc _)
  have HP0 : Hid (Pt (w.heap.size + 1) 2 ((w.alloc (.cells #[.string i, .string a, .string m, .int .i64 n, .int .i64 k, .string t] 25)).alloc (.cells #[.slice none 0 0, .int .i64 0] 29))) := hid_intro (by have := out_pt (w.alloc (.cells #[.string i, .string a, .string m, .int .i64 n, .int .i64 k, .string t] 25)) 29; simpa using this)
  clear h1 h2
  unfold ev at *
  go_enter Try.func5, Try.ntmps5
  go_wp2_with fail
  refine (H1.out _ HB0.out).mono ?_
  rintro e w1 ⟨rfl, hb1⟩
  have HB1 := hid_intro (HB0.out.trans (hb1.mono HB0.out.size))
  have HE1 := hid_intro (HE0.out.below hb1)
  have HP1 := hid_intro (HP0.out.below hb1)
  clear hb1
  cases r1
  · have hlt := HP1.out.lt
    obtain ⟨v0, q0⟩ := HP1.out.has 0 (by omega)
    obtain ⟨v1, q1⟩ := HP1.out.has 1 (by omega)
    have f0 := HP1.out.free 0 (by omega)
    have f1 := HP1.out.free 1 (by omega)
    go_wp2_with fail
    refine bodyPost_ret (v := .agg #[.slice none 0 0, .int .i64 1]) (by simp [results, Try.results5, go_sem, q0, q1]) rfl ⟨none, 0, rfl, made_nil _ _ _, ?_⟩
    repeat' first | exact HB1.out | apply Below.setCell
    all_goals (simp)
  · obtain rfl : r2 = false := by simpa using hr
    have hltE := HE1.out.1
    have c0 : w1.cell? ⟨w.heap.size, 0, none⟩ = some (.string i) := HE1.out.2 0 (by simp)
    have c1 : w1.cell? ⟨w.heap.size, 1, none⟩ = some (.string a) := HE1.out.2 1 (by simp)
    have c2 : w1.cell? ⟨w.heap.size, 2, none⟩ = some (.string m) := HE1.out.2 2 (by simp)
    have c3 : w1.cell? ⟨w.heap.size, 3, none⟩ = some (.int .i64 n) := HE1.out.2 3 (by simp)
    have c4 : w1.cell? ⟨w.heap.size, 4, none⟩ = some (.int .i64 k) := HE1.out.2 4 (by simp)
    have c5 : w1.cell? ⟨w.heap.size, 5, none⟩ = some (.string t) := HE1.out.2 5 (by simp)
    go_wp2_with fail
    refine (H2.out _).mono ?_
    rintro e w2 ⟨rfl, hb2⟩
    have HB2 := hid_intro (HB1.out.trans (hb2.mono HB1.out.size))
    have HP2 := hid_intro (HP1.out.below hb2)
    clear hb2 c0 c1 c2 c3 c4 c5
    have hlt := HP2.out.lt
    obtain ⟨v0, q0⟩ := HP2.out.has 0 (by omega)
    obtain ⟨v1, q1⟩ := HP2.out.has 1 (by omega)
    have f0 := HP2.out.free 0 (by omega)
    have f1 := HP2.out.free 1 (by omega)
    go_wp2_with fail
    refine bodyPost_ret (v := .agg #[.slice none 0 0, .int .i64 1]) (by simp [results, Try.results5, go_sem, q0, q1]) rfl ⟨none, 0, rfl, made_nil _ _ _, ?_⟩
    repeat' first | exact HB2.out | apply Below.setCell
    all_goals (simp)
theorem pt_block {g m : Nat} {w w' : World} (h : Pt g m w) (hs : w.heap.size ≤ w'.heap.size) (e : w'.heap[g]? = w.heap[g]?) : Pt g m w' :=
  ⟨by have := h.lt; omega, fun o ho => by obtain ⟨v, hv⟩ := h.has o ho; exact ⟨v, (World.cell?_of_block (a := ⟨g, o, none⟩) e).trans hv⟩, fun o ho => (World.frozen?_of_block (a := ⟨g, o, none⟩) e).trans (h.free o ho)⟩
theorem made_put {base : Nat} {ao : Option Addr} {l : List N} {w : World} (h : MadeG 3 N.cells N.zero base ao l w) (g0 o : Nat) (u : Value) (hne : ∀ g, ao = some ⟨g, 0, none⟩ → g ≠ g0) : MadeG 3 N.cells N.zero base ao l (w.setCell ⟨g0, o, none⟩ u) := by
  refine ⟨Rws.grown h.rws (grown_set w g0 o u) (h.own.imp id (fun ⟨g, h1, h2, h3⟩ b off e hb => ?_)), h.own.imp id (fun ⟨g, h1, h2, h3⟩ => ⟨g, h1, h2, pt_block h3 (by simp) ((grown_set w g0 o u).block g h3.lt (fun e => hne g h1 (by simpa using e)))⟩)⟩
  rw [h1] at e
  simp only [Option.some.injEq, Addr.mk.injEq] at e hb
  exact hne g h1 (by omega)
/-- What is held through the last region. -/
def BoxU (w : World) (B : Nat) (i : ByteArray) (xn xs : Int) (W : World) : Prop := Below w.heap.size w W ∧ B < W.heap.size ∧ W.cell? ⟨B, 0, none⟩ = some (.string i) ∧ W.cell? ⟨B, 1, none⟩ = some (.int .i64 xn) ∧ W.cell? ⟨B, 2, none⟩ = some (.int .i64 xs) ∧ Pt (w.heap.size + 1) 2 W
theorem BoxU.below {w : World} {B : Nat} {i : ByteArray} {xn xs : Int} {W W' : World} (h : BoxU w B i xn xs W) (hb : Below W.heap.size W W') : BoxU w B i xn xs W' := by
  obtain ⟨h0, l, p0, p1, p2, r⟩ := h
  have f := fun o => hb.cell (p := ⟨B, o, none⟩) l
  exact ⟨h0.trans (hb.mono h0.size), by have := hb.size; omega, (f 0).trans p0, (f 1).trans p1, (f 2).trans p2, r.below hb⟩
theorem BoxU.grown {w : World} {B n5 : Nat} {i : ByteArray} {xn xs : Int} {W W' : World} {row : Option Nat} (h : BoxU w B i xn xs W) (hg : W.grownBy W' row) (hr : ∀ b, row = some b → n5 ≤ b) (h5 : B < n5) (h6 : w.heap.size + 1 < B) : BoxU w B i xn xs W' := by
  obtain ⟨h0, l, p0, p1, p2, r⟩ := h
  have e := hg.block B l (fun e => by have := hr B e.symm; omega)
  have e2 := hg.block (w.heap.size + 1) r.lt (fun e => by have := hr _ e.symm; omega)
  have f := fun o => World.cell?_of_block (a := ⟨B, o, none⟩) e
  exact ⟨h0.grown hg h0.size (fun k hk => by have := hr k hk; omega), by have := hg.size; omega, (f 0).trans p0, (f 1).trans p1, (f 2).trans p2, pt_block r hg.size e2⟩
theorem BoxU.put {w : World} {B : Nat} {i : ByteArray} {xn xs : Int} {W : World} (h : BoxU w B i xn xs W) (h6 : w.heap.size + 1 < B) (o : Nat) (u : Value) : BoxU w B i xn xs (W.setCell ⟨w.heap.size + 1, o, none⟩ u) := by
  obtain ⟨h0, l, p0, p1, p2, r⟩ := h
  have e := (grown_set W (w.heap.size + 1) o u).block B l (fun e => by simp at e; omega)
  have f := fun o => World.cell?_of_block (a := ⟨B, o, none⟩) e
  exact ⟨h0.setCell (by show w.heap.size ≤ w.heap.size + 1; omega) _, by simpa using l, (f 0).trans p0, (f 1).trans p1, (f 2).trans p2, r.set _ _⟩
theorem meth_place (v : Value) (w : World) : (method 209 77 v "loop.example/g00562/impl.place").run Try.prog w = .ok (93, v) w := by kernel_rfl
set_option linter.unusedSimpArgs false in
set_option maxRecDepth 100000 in
set_option maxHeartbeats 8000000 in
theorem impl_take_right (ao : Option Addr) (cap : Nat) (es : List N) (i a m : ByteArray) (n k : Int) (t : ByteArray) (xn xs : Int) (S : Value) (c : Int) (w : World) (hl : es.length ≤ 40) (hS : ∀ e ∈ es, e.i.size ≤ 1048576) (hI : Ens ao es w)
    (h1 : ∀ W, Below w.heap.size w W → Calls Try.prog 14 #[.slice ao es.length cap] W fun e w' => e = .returned (.bool true) ∧ Below W.heap.size W w')
    (h2 : ∀ W, Calls Try.prog 20 #[ev i a m n k t] W fun e w' => e = .returned (.bool true) ∧ Below W.heap.size W w')
    (h3 : ∀ W, Calls Try.prog 21 #[ev i a m n k t] W fun e w' => e = .returned (.agg #[.string i, .int .i64 xn, .int .i64 xs]) ∧ Below W.heap.size W w')
    (h4 : ∀ W, Below w.heap.size w W → Calls Try.prog 22 #[.slice ao es.length cap, .string i] W fun e w' => e = .returned S ∧ Below W.heap.size W w')
    (h5 : ∀ W, Calls Try.prog 23 #[S, .agg #[.string i, .int .i64 xn, .int .i64 xs], .int .i64 es.length] W fun e w' => e = .returned (.int .i64 c) ∧ Below W.heap.size W w')
    (hc : c = 0 → S = .iface 77 (.agg #[.int .i64 (pos es i : Nat)]) ∧ es.length ≤ 39) :
    Calls Try.prog 5 #[.slice ao es.length cap, ev i a m n k t] w fun e w' => ResT w (if c = 0 then insAt es (pos es i) ⟨i, xn, xs⟩ else []) c e w' := by
  have hl' : ¬ (400 : Int) < (es.length : Int) := by omega
  have H1 := hid_intro h1
  have H2 := hid_intro h2
  have H3 := hid_intro h3
  have H4 := hid_intro h4
  have H5 := hid_intro h5
  have HC := hid_intro hc
  have HCP := hid_intro (fun W (hW : Below w.heap.size w W) => copy_any ao cap es W hl hS (hI.below hW))
  have HPC := hid_intro (place_any (pos es i : Nat))
  have HIN := hid_intro (fun (h39 : es.length ≤ 39) base v vb W (ho : W.ownsRow base 40 3 v es.length (cellsAll N.cells es)) (hv : W.heap[vb]? = some (.cells #[.string i, .int .i64 xn, .int .i64 xs] 40 (0, 0))) (hne : v.ownBlock ≠ some vb) (hb : base ≤ W.heap.size) =>
    ins_any base (pos es i) v es ⟨i, xn, xs⟩ vb _ _ W h39 hb (pos_le es i) ho hv hne (fun j u hj => by
      have hj2 : j < 3 := by
        have := (List.getElem?_eq_some_iff.1 hj).1
        simpa [N.cells] using this
      match j, hj2, hj with
      | 0, _, hj => simp [N.cells] at hj; subst hj; simp [World.cell?, hv]
      | 1, _, hj => simp [N.cells] at hj; subst hj; simp [World.cell?, hv]
      | 2, _, hj => simp [N.cells] at hj; subst hj; simp [World.cell?, hv]))
  have HB0 : Hid (Below w.heap.size w ((w.alloc (.cells #[.string i, .string a, .string m, .int .i64 n, .int .i64 k, .string t] 25)).alloc (.cells #[.slice none 0 0, .int .i64 0] 29))) := hid_intro (((Below.refl _ _).alloc (Nat.le_refl _) _).alloc (by simp) _)
  have HE0 : Hid (Blk w.heap.size [.string i, .string a, .string m, .int .i64 n, .int .i64 k, .string t] ((w.alloc (.cells #[.string i, .string a, .string m, .int .i64 n, .int .i64 k, .string t] 25)).alloc (.cells #[.slice none 0 0, .int .i64 0] 29))) := hid_intro ((Blk.new w [.string i, .string a, .string m, .int .i64 n, .int .i64 k, .string t] 25).alloc _)
  have HP0 : Hid (Pt (w.heap.size + 1) 2 ((w.alloc (.cells #[.string i, .string a, .string m, .int .i64 n, .int .i64 k, .string t] 25)).alloc (.cells #[.slice none 0 0, .int .i64 0] 29))) := hid_intro (by have := out_pt (w.alloc (.cells #[.string i, .string a, .string m, .int .i64 n, .int .i64 k, .string t] 25)) 29; simpa using this)
  clear h1 h2 h3 h4 h5 hc hI hS
  obtain ⟨L, hL⟩ : ∃ L, L = (if c = 0 then insAt es (pos es i) ⟨i, xn, xs⟩ else []) := ⟨_, rfl⟩
  rw [← hL]
  have HLL := hid_intro hL
  clear hL
  obtain ⟨len, hlen⟩ : ∃ len, len = es.length := ⟨_, rfl⟩
  rw [← hlen] at hl hl' H1 H4 H5 HC HCP HIN ⊢
  clear hlen
  unfold ev at *
  go_enter Try.func5, Try.ntmps5
  go_wp2_with fail
  refine (H1.out _ HB0.out).mono ?_
  rintro e w1 ⟨rfl, hb1⟩
  have HB1 := hid_intro (HB0.out.trans (hb1.mono HB0.out.size))
  have HE1 := hid_intro (HE0.out.below hb1)
  have HP1 := hid_intro (HP0.out.below hb1)
  clear hb1 HB0 HE0 HP0
  have hltE := HE1.out.1
  have c0 : w1.cell? ⟨w.heap.size, 0, none⟩ = some (.string i) := HE1.out.2 0 (by simp)
  have c1 : w1.cell? ⟨w.heap.size, 1, none⟩ = some (.string a) := HE1.out.2 1 (by simp)
  have c2 : w1.cell? ⟨w.heap.size, 2, none⟩ = some (.string m) := HE1.out.2 2 (by simp)
  have c3 : w1.cell? ⟨w.heap.size, 3, none⟩ = some (.int .i64 n) := HE1.out.2 3 (by simp)
  have c4 : w1.cell? ⟨w.heap.size, 4, none⟩ = some (.int .i64 k) := HE1.out.2 4 (by simp)
  have c5 : w1.cell? ⟨w.heap.size, 5, none⟩ = some (.string t) := HE1.out.2 5 (by simp)
  go_wp2_with fail
  refine (H2.out _).mono ?_
  rintro e w2 ⟨rfl, hb2⟩
  have HB2 := hid_intro (HB1.out.trans (hb2.mono HB1.out.size))
  have HE2 := hid_intro (HE1.out.below hb2)
  have HP2 := hid_intro (HP1.out.below hb2)
  clear hb2 c0 c1 c2 c3 c4 c5 HB1 HE1 HP1 hltE
  have hltE := HE2.out.1
  have c0 : w2.cell? ⟨w.heap.size, 0, none⟩ = some (.string i) := HE2.out.2 0 (by simp)
  have c1 : w2.cell? ⟨w.heap.size, 1, none⟩ = some (.string a) := HE2.out.2 1 (by simp)
  have c2 : w2.cell? ⟨w.heap.size, 2, none⟩ = some (.string m) := HE2.out.2 2 (by simp)
  have c3 : w2.cell? ⟨w.heap.size, 3, none⟩ = some (.int .i64 n) := HE2.out.2 3 (by simp)
  have c4 : w2.cell? ⟨w.heap.size, 4, none⟩ = some (.int .i64 k) := HE2.out.2 4 (by simp)
  have c5 : w2.cell? ⟨w.heap.size, 5, none⟩ = some (.string t) := HE2.out.2 5 (by simp)
  go_wp2_with fail
  refine (H3.out _).mono ?_
  rintro e w3 ⟨rfl, hb3⟩
  have HB3 := hid_intro (HB2.out.trans (hb3.mono HB2.out.size))
  have HP3 := hid_intro (HP2.out.below hb3)
  have HT3 : Hid (BoxU w w3.heap.size i xn xs (w3.alloc (.cells #[.string i, .int .i64 xn, .int .i64 xs] 40))) := hid_intro ⟨HB3.out.alloc HB3.out.size _, by simp, by simp [go_sem], by simp [go_sem], by simp [go_sem], HP3.out.below (al _ _)⟩
  have hB6 : w.heap.size + 1 < w3.heap.size := HP3.out.lt
  clear hb3 c0 c1 c2 c3 c4 c5 HB2 HE2 HP2 hltE
  go_wp2_with fail
  refine (H4.out _ HT3.out.1).mono ?_
  rintro e w4 ⟨rfl, hb4⟩
  have HT4 := hid_intro (HT3.out.below hb4)
  clear hb4 HT3
  obtain ⟨_, l4, d0, d1, d2, _⟩ := HT4.out
  go_wp2_with fail
  refine (H5.out _).mono ?_
  rintro e w5 ⟨rfl, hb5⟩
  have HT5 := hid_intro (HT4.out.below hb5)
  clear hb5 HT4 d0 d1 d2
  have hlt5 := HT5.out.2.2.2.2.2.lt
  obtain ⟨u0, y0⟩ := HT5.out.2.2.2.2.2.has 0 (by omega)
  obtain ⟨u1, y1⟩ := HT5.out.2.2.2.2.2.has 1 (by omega)
  have f0 := HT5.out.2.2.2.2.2.free 0 (by omega)
  have f1 := HT5.out.2.2.2.2.2.free 1 (by omega)
  by_cases hc0 : c = 0
  · subst hc0
    obtain ⟨rfl, h39⟩ := HC.out rfl
    have HS5 : Hid (BoxU w w3.heap.size i xn xs w5.drew) := hid_intro (HT5.out.below (Below.refl _ _).drew)
    have hB5 : w3.heap.size < w5.heap.size := HT5.out.2.1
    have hdz : w5.drew.heap.size = w5.heap.size := rfl
    replace HIN := hid_intro (HIN.out h39)
    obtain rfl := HLL.out.trans (if_pos rfl)
    clear y0 y1 f0 f1 HC HLL
    have hmt := fun w => meth_place (.agg #[.int .i64 (pos es i : Nat)]) w
    go_wp2_with fail
    refine wp_region_held_drew (S := fun W => Below w.heap.size w W ∧ w3.heap.size < W.heap.size ∧ W.cell? ⟨w3.heap.size, 0, none⟩ = some (.string i) ∧ W.cell? ⟨w3.heap.size, 1, none⟩ = some (.int .i64 xn) ∧ W.cell? ⟨w3.heap.size, 2, none⟩ = some (.int .i64 xs) ∧ Pt (w.heap.size + 1) 2 W) (by kernel_rfl) HS5.out (fun hHeld => ?_)
    refine wpAnyH_take (i := 0) (oi := { dst := some 36, op := Op.move (Operand.tmp 0), type := 23, pos := "l06_seen.go:144", after := #[], guard := none }) (v := ?_) rfl (by kernel_rfl) (by kernel_rfl) (by kernel_rfl) (fun _ _ _ h => h) (Or.inl ⟨by rfl, ?_⟩) (by assumption) ?_
    rotate_left
    · (intro w hSw; (try dsimp only at hSw); go_simp) <;> with_reducible rfl
    try simp only [Act.put, List.setIfInBounds_toArray, List.set_cons_zero, List.set_cons_succ]
    refine wpAnyH_take (i := 2) (oi := { dst := some 38, op := Op.move (Operand.tmp 6), type := 50, pos := "l06_seen.go:144", after := #[], guard := none }) (v := ?_) rfl (by kernel_rfl) (by kernel_rfl) (by kernel_rfl) (fun _ _ _ h => h) (Or.inl ⟨by rfl, ?_⟩) (by assumption) ?_
    rotate_left
    · (intro w hSw; (try dsimp only at hSw); go_simp) <;> with_reducible rfl
    try simp only [Act.put, List.setIfInBounds_toArray, List.set_cons_zero, List.set_cons_succ]
    refine wpAnyH_take (i := 4) (oi := { dst := some 40, op := Op.load 40 (Operand.tmp 5), type := 40, pos := "l06_seen.go:144", after := #[], guard := none }) (v := ?_) rfl (by kernel_rfl) (by kernel_rfl) (by kernel_rfl) (fun _ _ _ h => h) (Or.inl ⟨by rfl, ?_⟩) (by assumption) ?_
    rotate_left
    · (intro w hSw; (try dsimp only at hSw); go_simp) <;> with_reducible rfl
    try simp only [Act.put, List.setIfInBounds_toArray, List.set_cons_zero, List.set_cons_succ]
    refine wpAnyH_ready (rs := [1, 5]) (by kernel_rfl) (by simp) ?_
    refine AllReadyH.cons (o := { dst := some 37, op := Op.call { callee := Callee.value (Operand.func 25), args := #[Operand.tmp 36], argTypes := #[23] }, type := 23, pos := "l06_seen.go:144", after := #[{ on := 0, ground := Ground.data }], guard := none }) rfl (fun K hK => ?_) (AllReadyH.cons (o := { dst := some 41, op := Op.buildSlice 23 1 #[(0, Operand.tmp 40)], type := 23, pos := "l06_seen.go:144", after := #[{ on := 4, ground := Ground.data }], guard := none }) rfl (fun K hK => ?_) AllReadyH.nil)
    · go_simp
      go_at_call 25
      refine (HCP.out _ HS5.out.1).mono ?_
      rintro e q1 ⟨v, rfl, ho1, hq1⟩
      have hz1 := hq1.size
      try go_wp2_with fail
      have hk1 := BoxU.below HS5.out hq1
      refine hK.out _ _ hk1 (fun _ => ?_)
      clear hK K
      try simp only [Act.put, List.setIfInBounds_toArray, List.set_cons_zero, List.set_cons_succ]
      refine wpAnyH_ready (rs := [3, 5]) (by kernel_rfl) (by simp) ?_
      refine AllReadyH.cons (o := { dst := some 39, op := Op.call { callee := Callee.invoke (Operand.tmp 38) "loop.example/g00562/impl.place", args := #[], argTypes := #[] }, type := 3, pos := "l06_seen.go:144", after := #[{ on := 2, ground := Ground.data }, { on := 1, ground := Ground.chain }], guard := none }) rfl (fun K hK => ?_) (AllReadyH.cons (o := { dst := some 41, op := Op.buildSlice 23 1 #[(0, Operand.tmp 40)], type := 23, pos := "l06_seen.go:144", after := #[{ on := 4, ground := Ground.data }], guard := none }) rfl (fun K hK => ?_) AllReadyH.nil)
      · go_simp
        go_at_call 93
        refine (HPC.out _).mono ?_
        rintro e q2 ⟨rfl, hq2⟩
        have hz2 := hq2.size
        try go_wp2_with fail
        have hk2 := BoxU.below hk1 hq2
        have ho2 := own_below ho1 hq2
        refine hK.out _ _ hk2 (fun _ => ?_)
        clear hK K
        try simp only [Act.put, List.setIfInBounds_toArray, List.set_cons_zero, List.set_cons_succ]
        refine wpAnyH_ready (rs := [5]) (by kernel_rfl) (by simp) ?_
        refine AllReadyH.cons (o := { dst := some 41, op := Op.buildSlice 23 1 #[(0, Operand.tmp 40)], type := 23, pos := "l06_seen.go:144", after := #[{ on := 4, ground := Ground.data }], guard := none }) rfl (fun K hK => ?_) AllReadyH.nil
        go_simp
        try go_wp2_with fail
        have hk5 := BoxU.below hk2 (al q2 (.cells #[.string i, .int .i64 xn, .int .i64 xs] 40))
        have hv0 : (q2.alloc (.cells #[.string i, .int .i64 xn, .int .i64 xs] 40)).heap[q2.heap.size]? = some (Obj.cells #[.string i, .int .i64 xn, .int .i64 xs] 40 (0, 0)) := heap_alloc_new _ _
        have ho5 := own_below ho2 (al q2 (.cells #[.string i, .int .i64 xn, .int .i64 xs] 40))
        refine hK.out _ _ hk5 (fun _ => ?_)
        clear hK K
        try simp only [Act.put, List.setIfInBounds_toArray, List.set_cons_zero, List.set_cons_succ]
        refine wpAnyH_ready (rs := [6]) (by kernel_rfl) (by simp) ?_
        refine AllReadyH.cons (o := { dst := some 42, op := Op.call { callee := Callee.value (Operand.func 24), args := #[Operand.tmp 37, Operand.tmp 39, Operand.tmp 41], argTypes := #[23, 3, 23] }, type := 23, pos := "l06_seen.go:144", after := #[{ on := 1, ground := Ground.data }, { on := 3, ground := Ground.data }, { on := 5, ground := Ground.data }, { on := 3, ground := Ground.chain }], guard := none }) rfl (fun K hK => ?_) AllReadyH.nil
        go_simp
        go_at_call 24
        refine (HIN.out _ _ _ _ ho5 hv0 (by intro h; first | (have := (ho2.lt _ h).2; omega) | (have := (ho1.lt _ h).2; omega) | (have := (ho1.lt _ h).1; simp at this; omega)) (by first | omega | (simp at hz1 hz2 ⊢; omega))).mono ?_
        rintro e q3 ⟨v', rfl, ho3, hg3⟩
        obtain ⟨ao', cap', rfl, hm3⟩ := own_made (z := N.zero) N.len ho3
        try go_wp2_with fail
        have hob : ∀ b, v.ownBlock = some b → w5.heap.size ≤ b := fun b hb => by have := (ho5.lt b hb).1; (try simp at this); omega
        have hk3 := BoxU.grown hk5 hg3 hob hB5 hB6
        refine hK.out _ _ hk3 (fun _ => ?_)
        clear hK K
        try simp only [Act.put, List.setIfInBounds_toArray, List.set_cons_zero, List.set_cons_succ]
        refine wpAnyH_take (i := 7) (oi := { dst := some 43, op := Op.build 29 #[(0, Operand.tmp 42)], type := 29, pos := "l06_seen.go:144", after := #[{ on := 6, ground := Ground.data }], guard := none }) (v := ?_) rfl (by kernel_rfl) (by kernel_rfl) (by kernel_rfl) (fun _ _ _ h => h) (Or.inl ⟨by rfl, ?_⟩) (by assumption) ?_
        rotate_left
        · (intro w hSw; (try dsimp only at hSw); go_simp) <;> with_reducible rfl
        try simp only [Act.put, List.setIfInBounds_toArray, List.set_cons_zero, List.set_cons_succ]
        have hz5 := hk3.2.1
        have hp5 := hk3.2.2.2.2.2
        have hlt5 := hp5.lt
        obtain ⟨u0, y0⟩ := hp5.has 0 (by omega)
        obtain ⟨u1, y1⟩ := hp5.has 1 (by omega)
        have f0 := hp5.free 0 (by omega)
        have f1 := hp5.free 1 (by omega)
        refine wpAnyH_ready (rs := [8]) (by kernel_rfl) (by simp) ?_
        refine AllReadyH.cons (o := { dst := none, op := Op.store 29 (Operand.tmp 4) (Operand.tmp 43), type := 0, pos := "l06_seen.go:144", after := #[{ on := 7, ground := Ground.data }, { on := 6, ground := Ground.chain }, { on := 0, ground := Ground.phase }, { on := 1, ground := Ground.phase }, { on := 2, ground := Ground.phase }, { on := 3, ground := Ground.phase }, { on := 4, ground := Ground.phase }, { on := 5, ground := Ground.phase }, { on := 6, ground := Ground.phase }, { on := 7, ground := Ground.phase }], guard := none }) rfl (fun K hK => ?_) AllReadyH.nil
        go_simp
        try go_wp2_with fail
        have hk8 := BoxU.put (BoxU.put hk3 hB6 0 (.slice ao' (insAt es (pos es i) ⟨i, xn, xs⟩).length cap')) hB6 1 (.int .i64 0)
        refine hK.out _ _ hk8 (fun _ => ?_)
        clear hK K
        try simp only [Act.put, List.setIfInBounds_toArray, List.set_cons_zero, List.set_cons_succ]
        refine wpAnyH_done (by kernel_rfl) ?_ _
        have HBF := hid_intro hk8.1
        have HMF := hid_intro (made_put (made_put (hm3.low (base' := w.heap.size) (by first | omega | (simp; omega))) (w.heap.size + 1) 0 (.slice ao' (insAt es (pos es i) ⟨i, xn, xs⟩).length cap') (fun g hg => by have := ho3.lt g (by rw [hg]; rfl); (try simp at this); omega)) (w.heap.size + 1) 1 (.int .i64 0) (fun g hg => by have := ho3.lt g (by rw [hg]; rfl); (try simp at this); omega))
        clear hk8 hk3 hm3 ho3 hg3 hob
        go_wp2_with fail
        refine bodyPost_ret (v := .agg #[.slice ao' (insAt es (pos es i) ⟨i, xn, xs⟩).length cap', .int .i64 0]) (by simp [results, Try.results5, go_sem, y0, y1]) rfl ⟨ao', cap', rfl, HMF.out, HBF.out⟩
      · go_simp
        try go_wp2_with fail
        have hk5 := BoxU.below hk1 (al q1 (.cells #[.string i, .int .i64 xn, .int .i64 xs] 40))
        have hv0 : (q1.alloc (.cells #[.string i, .int .i64 xn, .int .i64 xs] 40)).heap[q1.heap.size]? = some (Obj.cells #[.string i, .int .i64 xn, .int .i64 xs] 40 (0, 0)) := heap_alloc_new _ _
        have ho5 := own_below ho1 (al q1 (.cells #[.string i, .int .i64 xn, .int .i64 xs] 40))
        refine hK.out _ _ hk5 (fun _ => ?_)
        clear hK K
        try simp only [Act.put, List.setIfInBounds_toArray, List.set_cons_zero, List.set_cons_succ]
        refine wpAnyH_ready (rs := [3]) (by kernel_rfl) (by simp) ?_
        refine AllReadyH.cons (o := { dst := some 39, op := Op.call { callee := Callee.invoke (Operand.tmp 38) "loop.example/g00562/impl.place", args := #[], argTypes := #[] }, type := 3, pos := "l06_seen.go:144", after := #[{ on := 2, ground := Ground.data }, { on := 1, ground := Ground.chain }], guard := none }) rfl (fun K hK => ?_) AllReadyH.nil
        go_simp
        go_at_call 93
        refine (HPC.out _).mono ?_
        rintro e q2 ⟨rfl, hq2⟩
        have hz2 := hq2.size
        try go_wp2_with fail
        have hk2 := BoxU.below hk5 hq2
        have ho2 := own_below ho5 hq2
        have hv2 := (hq2.block _ (by first | exact hz1 | (simp; done) | (simp at hz1 ⊢; omega))).trans hv0
        refine hK.out _ _ hk2 (fun _ => ?_)
        clear hK K
        try simp only [Act.put, List.setIfInBounds_toArray, List.set_cons_zero, List.set_cons_succ]
        refine wpAnyH_ready (rs := [6]) (by kernel_rfl) (by simp) ?_
        refine AllReadyH.cons (o := { dst := some 42, op := Op.call { callee := Callee.value (Operand.func 24), args := #[Operand.tmp 37, Operand.tmp 39, Operand.tmp 41], argTypes := #[23, 3, 23] }, type := 23, pos := "l06_seen.go:144", after := #[{ on := 1, ground := Ground.data }, { on := 3, ground := Ground.data }, { on := 5, ground := Ground.data }, { on := 3, ground := Ground.chain }], guard := none }) rfl (fun K hK => ?_) AllReadyH.nil
        go_simp
        go_at_call 24
        refine (HIN.out _ _ _ _ ho2 hv2 (by intro h; first | (have := (ho2.lt _ h).2; omega) | (have := (ho1.lt _ h).2; omega) | (have := (ho1.lt _ h).1; simp at this; omega)) (by first | omega | (simp at hz1 hz2 ⊢; omega))).mono ?_
        rintro e q3 ⟨v', rfl, ho3, hg3⟩
        obtain ⟨ao', cap', rfl, hm3⟩ := own_made (z := N.zero) N.len ho3
        try go_wp2_with fail
        have hob : ∀ b, v.ownBlock = some b → w5.heap.size ≤ b := fun b hb => by have := (ho2.lt b hb).1; (try simp at this); omega
        have hk3 := BoxU.grown hk2 hg3 hob hB5 hB6
        refine hK.out _ _ hk3 (fun _ => ?_)
        clear hK K
        try simp only [Act.put, List.setIfInBounds_toArray, List.set_cons_zero, List.set_cons_succ]
        refine wpAnyH_take (i := 7) (oi := { dst := some 43, op := Op.build 29 #[(0, Operand.tmp 42)], type := 29, pos := "l06_seen.go:144", after := #[{ on := 6, ground := Ground.data }], guard := none }) (v := ?_) rfl (by kernel_rfl) (by kernel_rfl) (by kernel_rfl) (fun _ _ _ h => h) (Or.inl ⟨by rfl, ?_⟩) (by assumption) ?_
        rotate_left
        · (intro w hSw; (try dsimp only at hSw); go_simp) <;> with_reducible rfl
        try simp only [Act.put, List.setIfInBounds_toArray, List.set_cons_zero, List.set_cons_succ]
        have hz5 := hk3.2.1
        have hp5 := hk3.2.2.2.2.2
        have hlt5 := hp5.lt
        obtain ⟨u0, y0⟩ := hp5.has 0 (by omega)
        obtain ⟨u1, y1⟩ := hp5.has 1 (by omega)
        have f0 := hp5.free 0 (by omega)
        have f1 := hp5.free 1 (by omega)
        refine wpAnyH_ready (rs := [8]) (by kernel_rfl) (by simp) ?_
        refine AllReadyH.cons (o := { dst := none, op := Op.store 29 (Operand.tmp 4) (Operand.tmp 43), type := 0, pos := "l06_seen.go:144", after := #[{ on := 7, ground := Ground.data }, { on := 6, ground := Ground.chain }, { on := 0, ground := Ground.phase }, { on := 1, ground := Ground.phase }, { on := 2, ground := Ground.phase }, { on := 3, ground := Ground.phase }, { on := 4, ground := Ground.phase }, { on := 5, ground := Ground.phase }, { on := 6, ground := Ground.phase }, { on := 7, ground := Ground.phase }], guard := none }) rfl (fun K hK => ?_) AllReadyH.nil
        go_simp
        try go_wp2_with fail
        have hk8 := BoxU.put (BoxU.put hk3 hB6 0 (.slice ao' (insAt es (pos es i) ⟨i, xn, xs⟩).length cap')) hB6 1 (.int .i64 0)
        refine hK.out _ _ hk8 (fun _ => ?_)
        clear hK K
        try simp only [Act.put, List.setIfInBounds_toArray, List.set_cons_zero, List.set_cons_succ]
        refine wpAnyH_done (by kernel_rfl) ?_ _
        have HBF := hid_intro hk8.1
        have HMF := hid_intro (made_put (made_put (hm3.low (base' := w.heap.size) (by first | omega | (simp; omega))) (w.heap.size + 1) 0 (.slice ao' (insAt es (pos es i) ⟨i, xn, xs⟩).length cap') (fun g hg => by have := ho3.lt g (by rw [hg]; rfl); (try simp at this); omega)) (w.heap.size + 1) 1 (.int .i64 0) (fun g hg => by have := ho3.lt g (by rw [hg]; rfl); (try simp at this); omega))
        clear hk8 hk3 hm3 ho3 hg3 hob
        go_wp2_with fail
        refine bodyPost_ret (v := .agg #[.slice ao' (insAt es (pos es i) ⟨i, xn, xs⟩).length cap', .int .i64 0]) (by simp [results, Try.results5, go_sem, y0, y1]) rfl ⟨ao', cap', rfl, HMF.out, HBF.out⟩
    · go_simp
      try go_wp2_with fail
      have hk5 := BoxU.below HS5.out (al w5.drew (.cells #[.string i, .int .i64 xn, .int .i64 xs] 40))
      have hv0 : (w5.drew.alloc (.cells #[.string i, .int .i64 xn, .int .i64 xs] 40)).heap[w5.drew.heap.size]? = some (Obj.cells #[.string i, .int .i64 xn, .int .i64 xs] 40 (0, 0)) := heap_alloc_new _ _
      refine hK.out _ _ hk5 (fun _ => ?_)
      clear hK K
      try simp only [Act.put, List.setIfInBounds_toArray, List.set_cons_zero, List.set_cons_succ]
      refine wpAnyH_ready (rs := [1]) (by kernel_rfl) (by simp) ?_
      refine AllReadyH.cons (o := { dst := some 37, op := Op.call { callee := Callee.value (Operand.func 25), args := #[Operand.tmp 36], argTypes := #[23] }, type := 23, pos := "l06_seen.go:144", after := #[{ on := 0, ground := Ground.data }], guard := none }) rfl (fun K hK => ?_) AllReadyH.nil
      go_simp
      go_at_call 25
      refine (HCP.out _ hk5.1).mono ?_
      rintro e q1 ⟨v, rfl, ho1, hq1⟩
      have hz1 := hq1.size
      try go_wp2_with fail
      have hk1 := BoxU.below hk5 hq1
      have hv1 := (hq1.block _ (by simp)).trans hv0
      refine hK.out _ _ hk1 (fun _ => ?_)
      clear hK K
      try simp only [Act.put, List.setIfInBounds_toArray, List.set_cons_zero, List.set_cons_succ]
      refine wpAnyH_ready (rs := [3]) (by kernel_rfl) (by simp) ?_
      refine AllReadyH.cons (o := { dst := some 39, op := Op.call { callee := Callee.invoke (Operand.tmp 38) "loop.example/g00562/impl.place", args := #[], argTypes := #[] }, type := 3, pos := "l06_seen.go:144", after := #[{ on := 2, ground := Ground.data }, { on := 1, ground := Ground.chain }], guard := none }) rfl (fun K hK => ?_) AllReadyH.nil
      go_simp
      go_at_call 93
      refine (HPC.out _).mono ?_
      rintro e q2 ⟨rfl, hq2⟩
      have hz2 := hq2.size
      try go_wp2_with fail
      have hk2 := BoxU.below hk1 hq2
      have ho2 := own_below ho1 hq2
      have hv2 := (hq2.block _ (by first | exact hz1 | (simp; done) | (simp at hz1 ⊢; omega))).trans hv1
      refine hK.out _ _ hk2 (fun _ => ?_)
      clear hK K
      try simp only [Act.put, List.setIfInBounds_toArray, List.set_cons_zero, List.set_cons_succ]
      refine wpAnyH_ready (rs := [6]) (by kernel_rfl) (by simp) ?_
      refine AllReadyH.cons (o := { dst := some 42, op := Op.call { callee := Callee.value (Operand.func 24), args := #[Operand.tmp 37, Operand.tmp 39, Operand.tmp 41], argTypes := #[23, 3, 23] }, type := 23, pos := "l06_seen.go:144", after := #[{ on := 1, ground := Ground.data }, { on := 3, ground := Ground.data }, { on := 5, ground := Ground.data }, { on := 3, ground := Ground.chain }], guard := none }) rfl (fun K hK => ?_) AllReadyH.nil
      go_simp
      go_at_call 24
      refine (HIN.out _ _ _ _ ho2 hv2 (by intro h; first | (have := (ho2.lt _ h).2; omega) | (have := (ho1.lt _ h).2; omega) | (have := (ho1.lt _ h).1; simp at this; omega)) (by first | omega | (simp at hz1 hz2 ⊢; omega))).mono ?_
      rintro e q3 ⟨v', rfl, ho3, hg3⟩
      obtain ⟨ao', cap', rfl, hm3⟩ := own_made (z := N.zero) N.len ho3
      try go_wp2_with fail
      have hob : ∀ b, v.ownBlock = some b → w5.heap.size ≤ b := fun b hb => by have := (ho2.lt b hb).1; (try simp at this); omega
      have hk3 := BoxU.grown hk2 hg3 hob hB5 hB6
      refine hK.out _ _ hk3 (fun _ => ?_)
      clear hK K
      try simp only [Act.put, List.setIfInBounds_toArray, List.set_cons_zero, List.set_cons_succ]
      refine wpAnyH_take (i := 7) (oi := { dst := some 43, op := Op.build 29 #[(0, Operand.tmp 42)], type := 29, pos := "l06_seen.go:144", after := #[{ on := 6, ground := Ground.data }], guard := none }) (v := ?_) rfl (by kernel_rfl) (by kernel_rfl) (by kernel_rfl) (fun _ _ _ h => h) (Or.inl ⟨by rfl, ?_⟩) (by assumption) ?_
      rotate_left
      · (intro w hSw; (try dsimp only at hSw); go_simp) <;> with_reducible rfl
      try simp only [Act.put, List.setIfInBounds_toArray, List.set_cons_zero, List.set_cons_succ]
      have hz5 := hk3.2.1
      have hp5 := hk3.2.2.2.2.2
      have hlt5 := hp5.lt
      obtain ⟨u0, y0⟩ := hp5.has 0 (by omega)
      obtain ⟨u1, y1⟩ := hp5.has 1 (by omega)
      have f0 := hp5.free 0 (by omega)
      have f1 := hp5.free 1 (by omega)
      refine wpAnyH_ready (rs := [8]) (by kernel_rfl) (by simp) ?_
      refine AllReadyH.cons (o := { dst := none, op := Op.store 29 (Operand.tmp 4) (Operand.tmp 43), type := 0, pos := "l06_seen.go:144", after := #[{ on := 7, ground := Ground.data }, { on := 6, ground := Ground.chain }, { on := 0, ground := Ground.phase }, { on := 1, ground := Ground.phase }, { on := 2, ground := Ground.phase }, { on := 3, ground := Ground.phase }, { on := 4, ground := Ground.phase }, { on := 5, ground := Ground.phase }, { on := 6, ground := Ground.phase }, { on := 7, ground := Ground.phase }], guard := none }) rfl (fun K hK => ?_) AllReadyH.nil
      go_simp
      try go_wp2_with fail
      have hk8 := BoxU.put (BoxU.put hk3 hB6 0 (.slice ao' (insAt es (pos es i) ⟨i, xn, xs⟩).length cap')) hB6 1 (.int .i64 0)
      refine hK.out _ _ hk8 (fun _ => ?_)
      clear hK K
      try simp only [Act.put, List.setIfInBounds_toArray, List.set_cons_zero, List.set_cons_succ]
      refine wpAnyH_done (by kernel_rfl) ?_ _
      have HBF := hid_intro hk8.1
      have HMF := hid_intro (made_put (made_put (hm3.low (base' := w.heap.size) (by first | omega | (simp; omega))) (w.heap.size + 1) 0 (.slice ao' (insAt es (pos es i) ⟨i, xn, xs⟩).length cap') (fun g hg => by have := ho3.lt g (by rw [hg]; rfl); (try simp at this); omega)) (w.heap.size + 1) 1 (.int .i64 0) (fun g hg => by have := ho3.lt g (by rw [hg]; rfl); (try simp at this); omega))
      clear hk8 hk3 hm3 ho3 hg3 hob
      go_wp2_with fail
      refine bodyPost_ret (v := .agg #[.slice ao' (insAt es (pos es i) ⟨i, xn, xs⟩).length cap', .int .i64 0]) (by simp [results, Try.results5, go_sem, y0, y1]) rfl ⟨ao', cap', rfl, HMF.out, HBF.out⟩
  · have hc1 : (c != 0) = true := by simpa using hc0
    obtain rfl := HLL.out.trans (if_neg hc0)
    clear HC HLL
    go_wp2_with fail
    refine bodyPost_ret (v := .agg #[.slice none 0 0, .int .i64 c]) (by simp [results, Try.results5, go_sem, y0, y1]) rfl ⟨none, 0, rfl, made_nil _ _ _, ?_⟩
    repeat' first | exact HT5.out.1 | apply Below.setCell
    all_goals (simp)
end SeenR
end Go.Proofs.Ytbhabplchcigfaa
