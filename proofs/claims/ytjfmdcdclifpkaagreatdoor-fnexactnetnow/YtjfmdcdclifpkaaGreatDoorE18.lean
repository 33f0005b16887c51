/-
  Documents: what is read of one, the law's own copies, and two held against each other. The condition: at most 1048576 lines.
  What a right document is: both sides say the same. The condition: at most 1048576 lines, texts of at most 1048576 bytes.
  What a right ledger is: documents counted and added by account and month. No condition.
-/
import Derived.DeepKeys4
import Derived.Test.YtjfmdcdclifpkaaGreatDoorE17
namespace Go.Proofs.YtjfmdcdclifpkaaGreatDoor
open Go.ChangeShapes Go.WideShapes Go.ChangeAt Go.RowKit
set_option linter.unusedVariables false
namespace LinR
open RowG
/-- What is left of a size. -/
def szF (L0 : Int) (es : List N) : Int := if (es.length : Int) + szL es ≤ L0 then L0 - (es.length : Int) - szL es else -1
set_option maxHeartbeats 4000000 in
theorem szs_from (L0 : Int) (h0 : 0 ≤ L0) (h1 : L0 ≤ 1048576) (ao : Option Addr) (cap : Nat) (es : List N) (w : World) (hm : es.length ≤ maxLen) (hI : Lis ao es w) (hw : ∀ e ∈ es, e.i.size ≤ maxLen) :
    Calls Tryz.prog 113 #[.slice ao es.length cap, .int .i64 L0] w fun e w' => e = .returned (.int .i64 (szF L0 es)) ∧ Below w.heap.size w w' := by
  obtain ⟨len, hlen⟩ : ∃ len, len = es.length := ⟨_, rfl⟩
  rw [← hlen] at hm ⊢
  have HZ := hid_intro hlen
  have HI := hid_intro hI
  have HW := hid_intro hw
  have HR : Hid (szF L0 es = if (es.length : Int) + szL es ≤ L0 then L0 - (es.length : Int) - szL es else -1) := rfl
  generalize szF L0 es = R at *
  unfold maxLen at hm
  clear hI hw hlen
  by_cases hbig : L0 < len
  · have hl2 : (L0 : Int) - (len : Int) < 0 := by omega
    have HN : Hid (R = -1) := hid_intro (by rw [HR.out, if_neg]; have := szL_nn es; have := HZ.out; omega)
    go_enter Tryz.func113, Tryz.ntmps113
    go_wp2_with fail
    go_ret
    exact ⟨ret_int HN.out.symm, Below.refl _ _⟩
  have hl : (len : Int) ≤ L0 := by omega
  have hl2 : ¬ (L0 : Int) - (len : Int) < 0 := by omega
  go_enter Tryz.func113, Tryz.ntmps113
  go_wp2_with fail
  go_loopw [5, 1] (fun x y w' => ∃ (j : Nat) (L : Int), j ≤ len ∧ x = .int .i64 j ∧ y = .int .i64 L ∧ 0 ≤ L ∧ L ≤ 1048576 ∧ Hid (L = L0 - (len : Int) - szL (es.take j)) ∧ Hid (Below w.heap.size w w')) (fun x y w' => len - (intOf x).toNat)
  case atStart => exact ⟨0, L0 - (len : Int), Nat.zero_le _, rfl, rfl, by omega, by omega, hid_intro (by simp [szL]), hid_intro (Below.refl _ _)⟩
  case round =>
    obtain ⟨j, L, hj, rfl, rfl, l0, l1, HL, HB⟩ := hrel
    by_cases hlt : j < len
    · obtain ⟨b, off, rfl, hbl, c0, c1⟩ := (HI.out.below HB.out).at j (by have := HZ.out; omega)
      have HS := hid_intro (szL_take es j (by have := HZ.out; omega))
      have q1 := HW.out _ (getD_mem (z := N.zero) es j (by have := HZ.out; omega))
      generalize es.getD j N.zero = E1 at *
      obtain ⟨i, n⟩ := E1
      have HS : Hid (szL (es.take (j + 1)) = szL (es.take j) + (i.size : Int)) := HS
      have HC := hid_intro (fun w => sz_any i n L q1 l0 l1 w)
      have hlt2 : (j : Int) < (len : Int) := by omega
      clear q1
      by_cases hs : (i.size : Int) ≤ L
      · rw [if_pos hs] at HC
        have HN : Hid (L - (i.size : Int) = L0 - (len : Int) - szL (es.take (j + 1))) := hid_intro (by rw [HS.out, HL.out]; omega)
        have r0 : 0 ≤ L - (i.size : Int) := by omega
        have r1 : L - (i.size : Int) ≤ 1048576 := by omega
        generalize L - (i.size : Int) = L2 at *
        clear hs
        go_wp2_with fail
        refine (HC.out _).mono ?_
        rintro e w1 ⟨rfl, hb⟩
        have HB1 := hid_intro (HB.out.trans (hb.mono HB.out.size))
        clear hb HB c0 c1
        have r2 : ¬ L2 < 0 := by omega
        go_wp2_with fail
        go_roundw
        case rel => exact ⟨j + 1, L2, by omega, by go_num, rfl, r0, r1, HN, HB1⟩
        case measure => simp [intOf]; omega
      · rw [if_neg hs] at HC
        have HN : Hid (R = -1) := hid_intro (by rw [HR.out, if_neg]; have := szL_le es (j + 1); have := HS.out; have := HL.out; have := HZ.out; omega)
        go_wp2_with fail
        refine (HC.out _).mono ?_
        rintro e w1 ⟨rfl, hb⟩
        have HB1 := hid_intro (HB.out.trans (hb.mono HB.out.size))
        clear hb HB c0 c1
        go_wp2_with fail
        go_ret
        exact ⟨ret_int HN.out.symm, HB1.out⟩
    · obtain rfl : j = len := by omega
      have HN : Hid (R = L) := hid_intro (by
        have e := HL.out
        rw [List.take_of_length_le (by have := HZ.out; omega)] at e
        rw [HR.out, if_pos (by have := HZ.out; omega)]; have := HZ.out; omega)
      go_wp2_with fail
      go_ret
      exact ⟨ret_int HN.out.symm, HB.out⟩
theorem szL_memF {es : List N} {e : N} (h : e ∈ es) : (e.i.size : Int) ≤ szL es := by
  induction es with
  | nil => cases h
  | cons x es ih =>
    have hn := szL_nn es
    have hx : szL (x :: es) = (x.i.size : Int) + szL es := by simp [szL]
    rcases List.mem_cons.1 h with rfl | h
    · omega
    · have := ih h; omega
end LinR
namespace DocR
open LinR RowG
open CatR (Blk Blk.new)
open EvtR (Pt)
/-- A document. -/
structure D where
  a : ByteArray
  mo : Int
  sq : Int
  ls : List N
def dcells (x : D) (la : Option Addr) (lc : Nat) : Array Value := #[.string x.a, .int .i64 x.mo, .int .i64 x.sq, .slice la x.ls.length lc]
/-- The value is this document. -/
def IsD (v : Value) (x : D) (W : World) : Prop := ∃ la lc, v = .agg (dcells x la lc) ∧ Lis la x.ls W
theorem IsD.below {v : Value} {x : D} {w w' : World} (h : IsD v x w) (hb : Below w.heap.size w w') : IsD v x w' := by
  obtain ⟨la, lc, e, hL⟩ := h
  exact ⟨la, lc, e, hL.below hb⟩
/-- A document that came in. -/
def D.In (x : D) : Prop := x.a.size ≤ maxLen ∧ x.ls.length ≤ maxLen ∧ ∀ e ∈ x.ls, e.i.size ≤ maxLen
def dszR (L0 : Int) (x : D) : Int := if (x.a.size : Int) ≤ L0 then szF (L0 - (x.a.size : Int)) x.ls else -1
/-- Its texts and its list are short. -/
def D.Sm (x : D) : Prop := x.a.size ≤ 1048576 ∧ x.ls.length ≤ 1048576 ∧ ∀ e ∈ x.ls, e.i.size ≤ 1048576
theorem dsz_small {L0 : Int} {x : D} (hL : L0 ≤ 1048576) (h : ¬ dszR L0 x < 0) : x.Sm ∧ dszR L0 x ≤ L0 := by
  unfold dszR szF at *
  have hn := szL_nn x.ls
  by_cases q : (x.a.size : Int) ≤ L0
  · rw [if_pos q] at h ⊢
    by_cases q2 : (x.ls.length : Int) + szL x.ls ≤ L0 - (x.a.size : Int)
    · rw [if_pos q2]
      exact ⟨⟨by omega, by omega, fun e he => by have := szL_memF he; omega⟩, by omega⟩
    · rw [if_neg q2] at h; exact absurd (by omega) h
  · rw [if_neg q] at h; exact absurd (by omega) h
set_option maxHeartbeats 4000000 in
theorem szD_in (a : ByteArray) (mo sq : Int) (la : Option Addr) (ll lc : Nat) (L0 R : Int) (w : World) (h0 : 0 ≤ L0) (h1 : L0 ≤ 1048576) (ha : a.size ≤ maxLen)
    (hs : (a.size : Int) ≤ L0 → ∀ W, Below w.heap.size w W → Calls Tryz.prog 113 #[.slice la ll lc, .int .i64 (L0 - (a.size : Int))] W fun e w' => e = .returned (.int .i64 R) ∧ Below W.heap.size W w') :
    Calls Tryz.prog 60 #[.agg #[.string a, .int .i64 mo, .int .i64 sq, .slice la ll lc], .int .i64 L0] w fun e w' => e = .returned (.int .i64 (if (a.size : Int) ≤ L0 then (if R < 0 then -1 else R) else -1)) ∧ Below w.heap.size w w' := by
  unfold maxLen at ha
  have HB0 : Hid (Below w.heap.size w (w.alloc (.cells #[.string a, .int .i64 mo, .int .i64 sq, .slice la ll lc] 108))) := hid_intro ((Below.refl _ _).alloc (Nat.le_refl _) _)
  by_cases q : (a.size : Int) ≤ L0
  · rw [if_pos q]
    have q2 : ¬ L0 - (a.size : Int) < 0 := by omega
    have HS := hid_intro (hs q)
    have b1 : 0 ≤ L0 - (a.size : Int) := by omega
    have b2 : L0 - (a.size : Int) ≤ 1048576 := by omega
    clear hs q
    by_cases hr : R < 0
    all_goals
      first | rw [if_pos hr] | rw [if_neg hr]
      go_enter Tryz.func60, Tryz.ntmps60
      go_wp2_with fail
      refine (HS.out _ HB0.out).mono ?_
      rintro e w1 ⟨rfl, hb1⟩
      have HB1 := hid_intro (HB0.out.trans (hb1.mono HB0.out.size))
      clear hb1
      go_wp2_with fail
      go_ret
      exact ⟨rfl, HB1.out⟩
  · rw [if_neg q]
    have q2 : L0 - (a.size : Int) < 0 := by omega
    clear hs q
    go_enter Tryz.func60, Tryz.ntmps60
    go_wp2_with fail
    go_ret
    exact ⟨rfl, HB0.out⟩
theorem szD_any (x : D) (la : Option Addr) (lc : Nat) (L0 : Int) (w : World) (h0 : 0 ≤ L0) (h1 : L0 ≤ 1048576) (hin : x.In) (hL : Lis la x.ls w) :
    Calls Tryz.prog 60 #[.agg (dcells x la lc), .int .i64 L0] w fun e w' => e = .returned (.int .i64 (dszR L0 x)) ∧ Below w.heap.size w w' := by
  have h := szD_in x.a x.mo x.sq la x.ls.length lc L0 (szF (L0 - (x.a.size : Int)) x.ls) w h0 h1 hin.1 (fun q W hW => szs_from _ (by omega) (by omega) la lc x.ls W hin.2.1 (hL.below hW) hin.2.2)
  have e : (if szF (L0 - (x.a.size : Int)) x.ls < 0 then -1 else szF (L0 - (x.a.size : Int)) x.ls) = szF (L0 - (x.a.size : Int)) x.ls := by
    unfold szF
    have := szL_nn x.ls
    split
    · rw [if_neg (by omega)]
    · rw [if_pos (by omega)]
  rw [e] at h
  exact h
/-- A document that a call has made. -/
def MadeD (base : Nat) (x : D) (v : Value) (w : World) : Prop := ∃ la lc, v = .agg (dcells x la lc) ∧ MadeG 2 N.cells N.zero base la x.ls w
theorem MadeD.below {base : Nat} {x : D} {v : Value} {w w' : World} (h : MadeD base x v w) (hb : Below w.heap.size w w') : MadeD base x v w' := by
  obtain ⟨la, lc, hv, h1⟩ := h
  exact ⟨la, lc, hv, h1.below hb⟩
theorem MadeD.low {base base' : Nat} {x : D} {v : Value} {w : World} (h : MadeD base x v w) (hb : base' ≤ base) : MadeD base' x v w := by
  obtain ⟨la, lc, hv, h1⟩ := h
  exact ⟨la, lc, hv, h1.low hb⟩
theorem MadeD.is {base : Nat} {x : D} {v : Value} {w : World} (h : MadeD base x v w) : IsD v x w := by
  obtain ⟨la, lc, hv, h1⟩ := h
  exact ⟨la, lc, hv, h1.rws⟩
set_option maxRecDepth 100000 in
set_option maxHeartbeats 8000000 in
theorem toD_in (a : ByteArray) (mo sq : Int) (la : Option Addr) (lc : Nat) (ls : List N) (w : World) (hl : ls.length ≤ 1048576) (hL : Lis la ls w) :
    Calls Tryz.prog 77 #[.agg #[.string a, .int .i64 mo, .int .i64 sq, .slice la ls.length lc]] w fun e w' => ∃ v, e = .returned v ∧ MadeD w.heap.size ⟨a, mo, sq, ls⟩ v w' ∧ Below w.heap.size w w' := by
  have H1 := hid_intro (fun W (hW : Below w.heap.size w W) => toLis_any la lc ls W hl (hL.below hW))
  have HF : Hid (∀ W g1, w.heap.size ≤ g1 → MadeG 2 N.cells N.zero g1 (some ⟨g1, 0, none⟩) ls W → MadeD w.heap.size ⟨a, mo, sq, ls⟩ (.agg #[.string a, .int .i64 mo, .int .i64 sq, .slice (some ⟨g1, 0, none⟩) ls.length ls.length]) W) := hid_intro (fun W g1 l1 m1 => ⟨_, _, rfl, m1.low l1⟩)
  generalize MadeD w.heap.size ⟨a, mo, sq, ls⟩ = M at *
  obtain ⟨ll, hll⟩ : ∃ ll, ll = ls.length := ⟨_, rfl⟩
  have HLL := hid_intro hll
  rw [← hll] at hl H1 HF ⊢
  clear hL hll
  have HB0 : Hid (Below w.heap.size w (((w.alloc (.cells #[.string a, .int .i64 mo, .int .i64 sq, .slice la ll lc] 108)).alloc (.cells #[.string ⟨#[]⟩, .int .i64 0, .int .i64 0, .slice none 0 0] 129)).alloc (.cells #[.string a, .int .i64 mo, .int .i64 sq, .slice none 0 0] 129))) := hid_intro ((((Below.refl _ _).alloc (Nat.le_refl _) _).alloc (by simp) _).alloc (by simp; omega) _)
  have HX0 := hid_intro (((BlkW.new w [.string a, .int .i64 mo, .int .i64 sq, .slice la ll lc] 108).below ((Below.refl _ _).alloc (Nat.le_refl _) (Obj.cells #[.string ⟨#[]⟩, .int .i64 0, .int .i64 0, .slice none 0 0] 129))).below ((Below.refl _ _).alloc (Nat.le_refl _) (Obj.cells #[.string a, .int .i64 mo, .int .i64 sq, .slice none 0 0] 129)))
  have HY0 := hid_intro ((BlkW.new (w.alloc (.cells #[.string a, .int .i64 mo, .int .i64 sq, .slice la ll lc] 108)) [.string ⟨#[]⟩, .int .i64 0, .int .i64 0, .slice none 0 0] 129).below ((Below.refl _ _).alloc (Nat.le_refl _) (Obj.cells #[.string a, .int .i64 mo, .int .i64 sq, .slice none 0 0] 129)))
  have HZ0 := hid_intro (BlkW.new ((w.alloc (.cells #[.string a, .int .i64 mo, .int .i64 sq, .slice la ll lc] 108)).alloc (.cells #[.string ⟨#[]⟩, .int .i64 0, .int .i64 0, .slice none 0 0] 129)) [.string a, .int .i64 mo, .int .i64 sq, .slice none 0 0] 129)
  have e1 : (w.alloc (.cells #[.string a, .int .i64 mo, .int .i64 sq, .slice la ll lc] 108)).heap.size = w.heap.size + 1 := by simp
  have e2 : ((w.alloc (.cells #[.string a, .int .i64 mo, .int .i64 sq, .slice la ll lc] 108)).alloc (.cells #[.string ⟨#[]⟩, .int .i64 0, .int .i64 0, .slice none 0 0] 129)).heap.size = w.heap.size + 1 + 1 := by simp
  rw [e1] at HY0
  rw [e2] at HZ0
  clear e1 e2
  go_enter Tryz.func77, Tryz.ntmps77
  go_wp2_with fail
  refine (H1.out _ HB0.out).mono ?_
  rintro e w1 ⟨rfl, hT1, hP1, hb1⟩
  have HM1 := hid_intro (show MadeG 2 N.cells N.zero _ _ ls w1 from ⟨hT1, .inr ⟨_, rfl, Nat.le_refl _, HLL.out ▸ hP1⟩⟩)
  obtain ⟨g1, hg1⟩ : ∃ g1, g1 = (((w.alloc (.cells #[.string a, .int .i64 mo, .int .i64 sq, .slice la ll lc] 108)).alloc (.cells #[.string ⟨#[]⟩, .int .i64 0, .int .i64 0, .slice none 0 0] 129)).alloc (.cells #[.string a, .int .i64 mo, .int .i64 sq, .slice none 0 0] 129)).heap.size := ⟨_, rfl⟩
  have HG1 : Hid (w.heap.size + 3 = g1) := hid_intro (by rw [hg1]; simp)
  rw [← hg1] at HM1 ⊢
  clear hg1
  have HY1 := hid_intro (HY0.out.below hb1)
  have HZ1 := hid_intro (HZ0.out.below hb1)
  have HB1 := hid_intro (HB0.out.trans (hb1.mono HB0.out.size))
  clear hT1 hP1 hb1 HX0 HY0 HZ0 HB0
  obtain ⟨⟨zl, zk⟩, zf⟩ := HZ1.out
  have z0 : w1.cell? ⟨w.heap.size + 1 + 1, 0, none⟩ = some (.string a) := zk 0 (by simp)
  have f0 : w1.frozen? ⟨w.heap.size + 1 + 1, 0, none⟩ = false := zf 0 (by simp)
  have z1 : w1.cell? ⟨w.heap.size + 1 + 1, 1, none⟩ = some (.int .i64 mo) := zk 1 (by simp)
  have f1 : w1.frozen? ⟨w.heap.size + 1 + 1, 1, none⟩ = false := zf 1 (by simp)
  have z2 : w1.cell? ⟨w.heap.size + 1 + 1, 2, none⟩ = some (.int .i64 sq) := zk 2 (by simp)
  have f2 : w1.frozen? ⟨w.heap.size + 1 + 1, 2, none⟩ = false := zf 2 (by simp)
  have z3 : w1.cell? ⟨w.heap.size + 1 + 1, 3, none⟩ = some (.slice none 0 0) := zk 3 (by simp)
  have f3 : w1.frozen? ⟨w.heap.size + 1 + 1, 3, none⟩ = false := zf 3 (by simp)
  obtain ⟨⟨yl, yk⟩, yf⟩ := HY1.out
  have y0 : w1.cell? ⟨w.heap.size + 1, 0, none⟩ = some (.string ⟨#[]⟩) := yk 0 (by simp)
  have q0 : w1.frozen? ⟨w.heap.size + 1, 0, none⟩ = false := yf 0 (by simp)
  have y1 : w1.cell? ⟨w.heap.size + 1, 1, none⟩ = some (.int .i64 0) := yk 1 (by simp)
  have q1 : w1.frozen? ⟨w.heap.size + 1, 1, none⟩ = false := yf 1 (by simp)
  have y2 : w1.cell? ⟨w.heap.size + 1, 2, none⟩ = some (.int .i64 0) := yk 2 (by simp)
  have q2 : w1.frozen? ⟨w.heap.size + 1, 2, none⟩ = false := yf 2 (by simp)
  have y3 : w1.cell? ⟨w.heap.size + 1, 3, none⟩ = some (.slice none 0 0) := yk 3 (by simp)
  have q3 : w1.frozen? ⟨w.heap.size + 1, 3, none⟩ = false := yf 3 (by simp)
  clear zk zf yk yf HY1 HZ1
  have HN1 : Hid (∀ b off, (some ⟨g1, 0, none⟩ : Option Addr) = some ⟨b, off, none⟩ → ∀ g, g ≤ w.heap.size + 1 + 1 → b ≠ g) := hid_intro (fun b off e g hg => by simp at e; have := HG1.out; omega)
  go_wp2_with fail
  refine bodyPost_ret (v := .agg #[.string a, .int .i64 mo, .int .i64 sq, .slice (some ⟨g1, 0, none⟩) ll ll]) (by simp [results, Tryz.results77, go_sem, y0, y1, y2, y3]) rfl ⟨_, rfl, HF.out _ g1 (by have := HG1.out; omega) ?_, ?_⟩
  · exact (MadeG.put (MadeG.put (MadeG.put (MadeG.put (MadeG.put HM1.out _ _ _ (.inr (fun b off e => HN1.out b off e _ (by omega)))) _ _ _ (.inr (fun b off e => HN1.out b off e _ (by omega)))) _ _ _ (.inr (fun b off e => HN1.out b off e _ (by omega)))) _ _ _ (.inr (fun b off e => HN1.out b off e _ (by omega)))) _ _ _ (.inr (fun b off e => HN1.out b off e _ (by omega))))
  · exact (((((HB1.out.setCell (by simp; omega) _).setCell (by simp) _).setCell (by simp) _).setCell (by simp) _).setCell (by simp) _)
theorem toD_any (v : Value) (x : D) (w : World) (hl : x.ls.length ≤ 1048576) (h : IsD v x w) :
    Calls Tryz.prog 77 #[v] w fun e w' => ∃ v', e = .returned v' ∧ MadeD w.heap.size x v' w' ∧ Below w.heap.size w w' := by
  obtain ⟨la, lc, rfl, hL⟩ := h
  exact toD_in x.a x.mo x.sq la lc x.ls w hl hL
set_option maxRecDepth 100000 in
set_option maxHeartbeats 8000000 in
theorem eqD_in (a : ByteArray) (mo sq : Int) (la : Option Addr) (ll lc : Nat) (la' : Option Addr) (lc' : Nat) (w : World)
    (h1 : ∀ W, Below w.heap.size w W → Calls Tryz.prog 9 #[.slice la ll lc, .slice la' ll lc'] W fun e w' => e = .returned (.bool true) ∧ Below W.heap.size W w') :
    Calls Tryz.prog 91 #[.agg #[.string a, .int .i64 mo, .int .i64 sq, .slice la ll lc], .agg #[.string a, .int .i64 mo, .int .i64 sq, .slice la' ll lc']] w fun e w' => e = .returned (.bool true) ∧ Below w.heap.size w w' := by
  have H1 := hid_intro h1
  have HB0 : Hid (Below w.heap.size w ((w.alloc (.cells #[.string a, .int .i64 mo, .int .i64 sq, .slice la ll lc] 129)).alloc (.cells #[.string a, .int .i64 mo, .int .i64 sq, .slice la' ll lc'] 129))) := hid_intro (((Below.refl _ _).alloc (Nat.le_refl _) _).alloc (by simp) _)
  clear h1
  go_enter Tryz.func91, Tryz.ntmps91
  go_wp2_with fail
  refine (H1.out _ HB0.out).mono ?_
  rintro e w1 ⟨rfl, hb1⟩
  have HB1 := hid_intro (HB0.out.trans (hb1.mono HB0.out.size))
  clear hb1
  go_wp2_with fail
  go_ret
  exact ⟨rfl, HB1.out⟩
theorem eqD_any (v v' : Value) (x : D) (w : World) (hl : x.ls.length ≤ 1048576) (h : IsD v x w) (h' : IsD v' x w) :
    Calls Tryz.prog 91 #[v, v'] w fun e w' => e = .returned (.bool true) ∧ Below w.heap.size w w' := by
  obtain ⟨la, lc, rfl, hL⟩ := h
  obtain ⟨la', lc', rfl, hL'⟩ := h'
  exact eqD_in x.a x.mo x.sq la x.ls.length lc la' lc' w (fun W hW => eqLis_any la la' lc lc' x.ls W hl (hL.below hW) (hL'.below hW))
end DocR
end Go.Proofs.YtjfmdcdclifpkaaGreatDoor
namespace Go.Proofs.YtjfmdcdclifpkaaGreatDoor
open Go.ChangeShapes Go.WideShapes Go.ChangeAt Go.RowKit
set_option linter.unusedVariables false
namespace DocR
open LinR RowG LtR
open NameR (nameB)
open CatR (Blk Blk.new)
theorem inW (n low high : Int) (w : World) : Calls Tryz.prog 50 #[.int .i64 n, .int .i64 low, .int .i64 high] w fun e w' => e = .returned (.bool (decide (low ≤ n ∧ n ≤ high))) ∧ w' = w := by
  rcases (show (¬ low ≤ n) ∨ (low ≤ n ∧ ¬ n ≤ high) ∨ (low ≤ n ∧ n ≤ high) by omega) with h | ⟨h1, h2⟩ | ⟨h1, h2⟩
  all_goals
    go_enter Tryz.func50, Tryz.ntmps50
    go_wp2
    go_ret
    exact ⟨ret_bool (by first | (simp [*]; done) | (simp; omega)), rfl⟩
theorem isW (n low high : Int) (w : World) : Calls Tryz.prog 99 #[.int .i64 n, .int .i64 low, .int .i64 high] w fun e w' => e = .returned (.bool (decide (low ≤ n ∧ n ≤ high))) ∧ w' = w := by
  rcases (show (¬ low ≤ n) ∨ (low ≤ n ∧ ¬ n ≤ high) ∨ (low ≤ n ∧ n ≤ high) by omega) with h | ⟨h1, h2⟩ | ⟨h1, h2⟩
  all_goals
    go_enter Tryz.func99, Tryz.ntmps99
    go_wp2
    go_ret
    exact ⟨ret_bool (by first | (simp [*]; done) | (simp; omega)), rfl⟩
theorem iMon (n : Int) (w : World) : Calls Tryz.prog 81 #[.int .i64 n] w fun e w' => e = .returned (.bool (decide (0 ≤ n ∧ n ≤ 2760))) ∧ w' = w := by
  have H := inW n 0 2760
  generalize decide (0 ≤ n ∧ n ≤ 2760) = b at *
  go_enter Tryz.func81, Tryz.ntmps81
  go_wp2_with (go_at_call 50; refine (H _).mono ?_; rintro e w' ⟨rfl, rfl⟩)
  go_ret
  exact ⟨rfl, rfl⟩
theorem sMon (n : Int) (w : World) : Calls Tryz.prog 65 #[.int .i64 n] w fun e w' => e = .returned (.bool (decide (0 ≤ n ∧ n ≤ 2760))) ∧ w' = w := by
  have H := isW n 0 2760
  generalize decide (0 ≤ n ∧ n ≤ 2760) = b at *
  go_enter Tryz.func65, Tryz.ntmps65
  go_wp2_with (go_at_call 99; refine (H _).mono ?_; rintro e w' ⟨rfl, rfl⟩)
  go_ret
  exact ⟨rfl, rfl⟩
/-- Is this a right document? -/
def dB (x : D) : Bool := nameB x.a && (decide (0 ≤ x.mo ∧ x.mo ≤ 2760) && (decide (0 ≤ x.sq ∧ x.sq ≤ 1000000) && (sB x.ls && (decide (x.sq = 0) || decide (0 < x.ls.length)))))
theorem five (b1 b2 b3 b4 b5 b6 : Bool) : (b1 = false) ∨ (b1 = true ∧ b2 = false) ∨ (b1 = true ∧ b2 = true ∧ b3 = false) ∨ (b1 = true ∧ b2 = true ∧ b3 = true ∧ b4 = false) ∨ (b1 = true ∧ b2 = true ∧ b3 = true ∧ b4 = true ∧ b5 = true) ∨ (b1 = true ∧ b2 = true ∧ b3 = true ∧ b4 = true ∧ b5 = false ∧ b6 = true) ∨ (b1 = true ∧ b2 = true ∧ b3 = true ∧ b4 = true ∧ b5 = false ∧ b6 = false) := by
  cases b1 <;> cases b2 <;> cases b3 <;> cases b4 <;> cases b5 <;> cases b6 <;> simp
set_option maxRecDepth 100000 in
set_option maxHeartbeats 8000000 in
theorem iright_in (a : ByteArray) (mo sq : Int) (la : Option Addr) (ll lc : Nat) (b1 b2 b3 b4 b5 b6 : Bool) (w : World) (hll : ll ≤ 1048576)
    (h1 : ∀ W, Calls Tryz.prog 180 #[.string a] W fun e w' => e = .returned (.bool b1) ∧ w' = W)
    (h2 : ∀ W, Calls Tryz.prog 81 #[.int .i64 mo] W fun e w' => e = .returned (.bool b2) ∧ w' = W)
    (h3 : ∀ W, Calls Tryz.prog 50 #[.int .i64 sq, .int .i64 0, .int .i64 1000000] W fun e w' => e = .returned (.bool b3) ∧ w' = W)
    (h4 : ∀ W, Below w.heap.size w W → Calls Tryz.prog 192 #[.slice la ll lc] W fun e w' => e = .returned (.bool b4) ∧ Below W.heap.size W w') (h5 : b5 = decide (sq = 0)) (h6 : b6 = decide (0 < ll)) :
    Calls Tryz.prog 140 #[.agg #[.string a, .int .i64 mo, .int .i64 sq, .slice la ll lc]] w fun e w' => e = .returned (.bool (b1 && (b2 && (b3 && (b4 && (b5 || b6)))))) ∧ Below w.heap.size w w' := by
  have H1 := hid_intro h1
  have H2 := hid_intro h2
  have H3 := hid_intro h3
  have H4 := hid_intro h4
  clear h1 h2 h3 h4
  have HB0 : Hid (Below w.heap.size w (w.alloc (.cells #[.string a, .int .i64 mo, .int .i64 sq, .slice la ll lc] 129))) := hid_intro ((Below.refl _ _).alloc (Nat.le_refl _) _)
  have HX0 := hid_intro (Blk.new w [.string a, .int .i64 mo, .int .i64 sq, .slice la ll lc] 129)
  rcases five b1 b2 b3 b4 b5 b6 with rfl | ⟨rfl, rfl⟩ | ⟨rfl, rfl, rfl⟩ | ⟨rfl, rfl, rfl, rfl⟩ | ⟨rfl, rfl, rfl, rfl, rfl⟩ | ⟨rfl, rfl, rfl, rfl, rfl, rfl⟩ | ⟨rfl, rfl, rfl, rfl, rfl, rfl⟩
  · clear h5 h6
    go_enter Tryz.func140, Tryz.ntmps140
    go_wp2_with (go_at_call 180; refine (H1.out _).mono ?_; rintro e w1 ⟨rfl, rfl⟩)
    go_ret
    exact ⟨rfl, HB0.out⟩
  · clear h5 h6
    go_enter Tryz.func140, Tryz.ntmps140
    go_wp2_with (first | (go_at_call 180; refine (H1.out _).mono ?_; rintro e w1 ⟨rfl, rfl⟩) | (go_at_call 81; refine (H2.out _).mono ?_; rintro e w1 ⟨rfl, rfl⟩) | (go_at_call 50; refine (H3.out _).mono ?_; rintro e w1 ⟨rfl, rfl⟩))
    go_ret
    exact ⟨rfl, HB0.out⟩
  · clear h5 h6
    go_enter Tryz.func140, Tryz.ntmps140
    go_wp2_with (first | (go_at_call 180; refine (H1.out _).mono ?_; rintro e w1 ⟨rfl, rfl⟩) | (go_at_call 81; refine (H2.out _).mono ?_; rintro e w1 ⟨rfl, rfl⟩) | (go_at_call 50; refine (H3.out _).mono ?_; rintro e w1 ⟨rfl, rfl⟩))
    go_ret
    exact ⟨rfl, HB0.out⟩
  · clear h5 h6
    go_enter Tryz.func140, Tryz.ntmps140
    go_wp2_with (first | (go_at_call 180; refine (H1.out _).mono ?_; rintro e w1 ⟨rfl, rfl⟩) | (go_at_call 81; refine (H2.out _).mono ?_; rintro e w1 ⟨rfl, rfl⟩) | (go_at_call 50; refine (H3.out _).mono ?_; rintro e w1 ⟨rfl, rfl⟩))
    refine (H4.out _ HB0.out).mono ?_
    rintro e w2 ⟨rfl, hb2⟩
    have HB2 := hid_intro (HB0.out.trans (hb2.mono HB0.out.size))
    obtain ⟨xl, xc⟩ := HX0.out.below hb2
    have p2 : w2.cell? ⟨w.heap.size, 2, none⟩ = some (.int .i64 sq) := xc 2 (by simp)
    have p3 : w2.cell? ⟨w.heap.size, 3, none⟩ = some (.slice la ll lc) := xc 3 (by simp)
    clear xc hb2
    go_wp2_with fail
    go_ret
    exact ⟨rfl, HB2.out⟩
  · obtain rfl : sq = 0 := of_decide_eq_true h5.symm
    clear h5 h6
    go_enter Tryz.func140, Tryz.ntmps140
    go_wp2_with (first | (go_at_call 180; refine (H1.out _).mono ?_; rintro e w1 ⟨rfl, rfl⟩) | (go_at_call 81; refine (H2.out _).mono ?_; rintro e w1 ⟨rfl, rfl⟩) | (go_at_call 50; refine (H3.out _).mono ?_; rintro e w1 ⟨rfl, rfl⟩))
    refine (H4.out _ HB0.out).mono ?_
    rintro e w2 ⟨rfl, hb2⟩
    have HB2 := hid_intro (HB0.out.trans (hb2.mono HB0.out.size))
    obtain ⟨xl, xc⟩ := HX0.out.below hb2
    have p2 : w2.cell? ⟨w.heap.size, 2, none⟩ = some (.int .i64 0) := xc 2 (by simp)
    have p3 : w2.cell? ⟨w.heap.size, 3, none⟩ = some (.slice la ll lc) := xc 3 (by simp)
    clear xc hb2
    go_wp2_with fail
    go_ret
    exact ⟨rfl, HB2.out⟩
  · have q5 : ¬ sq = 0 := of_decide_eq_false h5.symm
    have q5' : (sq == 0) = false := by simpa using q5
    have HQ : Hid (decide (0 < ll) = true) := hid_intro h6.symm
    clear h5 h6
    go_enter Tryz.func140, Tryz.ntmps140
    go_wp2_with (first | (go_at_call 180; refine (H1.out _).mono ?_; rintro e w1 ⟨rfl, rfl⟩) | (go_at_call 81; refine (H2.out _).mono ?_; rintro e w1 ⟨rfl, rfl⟩) | (go_at_call 50; refine (H3.out _).mono ?_; rintro e w1 ⟨rfl, rfl⟩))
    refine (H4.out _ HB0.out).mono ?_
    rintro e w2 ⟨rfl, hb2⟩
    have HB2 := hid_intro (HB0.out.trans (hb2.mono HB0.out.size))
    obtain ⟨xl, xc⟩ := HX0.out.below hb2
    have p2 : w2.cell? ⟨w.heap.size, 2, none⟩ = some (.int .i64 sq) := xc 2 (by simp)
    have p3 : w2.cell? ⟨w.heap.size, 3, none⟩ = some (.slice la ll lc) := xc 3 (by simp)
    clear xc hb2
    go_wp2_with fail
    go_ret
    exact ⟨ret_bool HQ.out, HB2.out⟩
  · have q5 : ¬ sq = 0 := of_decide_eq_false h5.symm
    have q5' : (sq == 0) = false := by simpa using q5
    have HQ : Hid (decide (0 < ll) = false) := hid_intro h6.symm
    clear h5 h6
    go_enter Tryz.func140, Tryz.ntmps140
    go_wp2_with (first | (go_at_call 180; refine (H1.out _).mono ?_; rintro e w1 ⟨rfl, rfl⟩) | (go_at_call 81; refine (H2.out _).mono ?_; rintro e w1 ⟨rfl, rfl⟩) | (go_at_call 50; refine (H3.out _).mono ?_; rintro e w1 ⟨rfl, rfl⟩))
    refine (H4.out _ HB0.out).mono ?_
    rintro e w2 ⟨rfl, hb2⟩
    have HB2 := hid_intro (HB0.out.trans (hb2.mono HB0.out.size))
    obtain ⟨xl, xc⟩ := HX0.out.below hb2
    have p2 : w2.cell? ⟨w.heap.size, 2, none⟩ = some (.int .i64 sq) := xc 2 (by simp)
    have p3 : w2.cell? ⟨w.heap.size, 3, none⟩ = some (.slice la ll lc) := xc 3 (by simp)
    clear xc hb2
    go_wp2_with fail
    go_ret
    exact ⟨ret_bool HQ.out, HB2.out⟩
set_option maxRecDepth 100000 in
set_option maxHeartbeats 8000000 in
theorem sright_in (a : ByteArray) (mo sq : Int) (la : Option Addr) (ll lc : Nat) (b1 b2 b3 b4 b5 b6 : Bool) (w : World) (hll : ll ≤ 1048576)
    (h1 : ∀ W, Calls Tryz.prog 115 #[.string a] W fun e w' => e = .returned (.bool b1) ∧ w' = W)
    (h2 : ∀ W, Calls Tryz.prog 65 #[.int .i64 mo] W fun e w' => e = .returned (.bool b2) ∧ w' = W)
    (h3 : ∀ W, Calls Tryz.prog 99 #[.int .i64 sq, .int .i64 0, .int .i64 1000000] W fun e w' => e = .returned (.bool b3) ∧ w' = W)
    (h4 : ∀ W, Below w.heap.size w W → Calls Tryz.prog 167 #[.slice la ll lc] W fun e w' => e = .returned (.bool b4) ∧ Below W.heap.size W w') (h5 : b5 = decide (sq = 0)) (h6 : b6 = decide (0 < ll)) :
    Calls Tryz.prog 117 #[.agg #[.string a, .int .i64 mo, .int .i64 sq, .slice la ll lc]] w fun e w' => e = .returned (.bool (b1 && (b2 && (b3 && (b4 && (b5 || b6)))))) ∧ Below w.heap.size w w' := by
  have H1 := hid_intro h1
  have H2 := hid_intro h2
  have H3 := hid_intro h3
  have H4 := hid_intro h4
  clear h1 h2 h3 h4
  have HB0 : Hid (Below w.heap.size w (w.alloc (.cells #[.string a, .int .i64 mo, .int .i64 sq, .slice la ll lc] 129))) := hid_intro ((Below.refl _ _).alloc (Nat.le_refl _) _)
  have HX0 := hid_intro (Blk.new w [.string a, .int .i64 mo, .int .i64 sq, .slice la ll lc] 129)
  rcases five b1 b2 b3 b4 b5 b6 with rfl | ⟨rfl, rfl⟩ | ⟨rfl, rfl, rfl⟩ | ⟨rfl, rfl, rfl, rfl⟩ | ⟨rfl, rfl, rfl, rfl, rfl⟩ | ⟨rfl, rfl, rfl, rfl, rfl, rfl⟩ | ⟨rfl, rfl, rfl, rfl, rfl, rfl⟩
  · clear h5 h6
    go_enter Tryz.func117, Tryz.ntmps117
    go_wp2_with (go_at_call 115; refine (H1.out _).mono ?_; rintro e w1 ⟨rfl, rfl⟩)
    go_ret
    exact ⟨rfl, HB0.out⟩
  · clear h5 h6
    go_enter Tryz.func117, Tryz.ntmps117
    go_wp2_with (first | (go_at_call 115; refine (H1.out _).mono ?_; rintro e w1 ⟨rfl, rfl⟩) | (go_at_call 65; refine (H2.out _).mono ?_; rintro e w1 ⟨rfl, rfl⟩) | (go_at_call 99; refine (H3.out _).mono ?_; rintro e w1 ⟨rfl, rfl⟩))
    go_ret
    exact ⟨rfl, HB0.out⟩
  · clear h5 h6
    go_enter Tryz.func117, Tryz.ntmps117
    go_wp2_with (first | (go_at_call 115; refine (H1.out _).mono ?_; rintro e w1 ⟨rfl, rfl⟩) | (go_at_call 65; refine (H2.out _).mono ?_; rintro e w1 ⟨rfl, rfl⟩) | (go_at_call 99; refine (H3.out _).mono ?_; rintro e w1 ⟨rfl, rfl⟩))
    go_ret
    exact ⟨rfl, HB0.out⟩
  · clear h5 h6
    go_enter Tryz.func117, Tryz.ntmps117
    go_wp2_with (first | (go_at_call 115; refine (H1.out _).mono ?_; rintro e w1 ⟨rfl, rfl⟩) | (go_at_call 65; refine (H2.out _).mono ?_; rintro e w1 ⟨rfl, rfl⟩) | (go_at_call 99; refine (H3.out _).mono ?_; rintro e w1 ⟨rfl, rfl⟩))
    refine (H4.out _ HB0.out).mono ?_
    rintro e w2 ⟨rfl, hb2⟩
    have HB2 := hid_intro (HB0.out.trans (hb2.mono HB0.out.size))
    obtain ⟨xl, xc⟩ := HX0.out.below hb2
    have p2 : w2.cell? ⟨w.heap.size, 2, none⟩ = some (.int .i64 sq) := xc 2 (by simp)
    have p3 : w2.cell? ⟨w.heap.size, 3, none⟩ = some (.slice la ll lc) := xc 3 (by simp)
    clear xc hb2
    go_wp2_with fail
    go_ret
    exact ⟨rfl, HB2.out⟩
  · obtain rfl : sq = 0 := of_decide_eq_true h5.symm
    clear h5 h6
    go_enter Tryz.func117, Tryz.ntmps117
    go_wp2_with (first | (go_at_call 115; refine (H1.out _).mono ?_; rintro e w1 ⟨rfl, rfl⟩) | (go_at_call 65; refine (H2.out _).mono ?_; rintro e w1 ⟨rfl, rfl⟩) | (go_at_call 99; refine (H3.out _).mono ?_; rintro e w1 ⟨rfl, rfl⟩))
    refine (H4.out _ HB0.out).mono ?_
    rintro e w2 ⟨rfl, hb2⟩
    have HB2 := hid_intro (HB0.out.trans (hb2.mono HB0.out.size))
    obtain ⟨xl, xc⟩ := HX0.out.below hb2
    have p2 : w2.cell? ⟨w.heap.size, 2, none⟩ = some (.int .i64 0) := xc 2 (by simp)
    have p3 : w2.cell? ⟨w.heap.size, 3, none⟩ = some (.slice la ll lc) := xc 3 (by simp)
    clear xc hb2
    go_wp2_with fail
    go_ret
    exact ⟨rfl, HB2.out⟩
  · have q5 : ¬ sq = 0 := of_decide_eq_false h5.symm
    have q5' : (sq == 0) = false := by simpa using q5
    have HQ : Hid (decide (0 < ll) = true) := hid_intro h6.symm
    clear h5 h6
    go_enter Tryz.func117, Tryz.ntmps117
    go_wp2_with (first | (go_at_call 115; refine (H1.out _).mono ?_; rintro e w1 ⟨rfl, rfl⟩) | (go_at_call 65; refine (H2.out _).mono ?_; rintro e w1 ⟨rfl, rfl⟩) | (go_at_call 99; refine (H3.out _).mono ?_; rintro e w1 ⟨rfl, rfl⟩))
    refine (H4.out _ HB0.out).mono ?_
    rintro e w2 ⟨rfl, hb2⟩
    have HB2 := hid_intro (HB0.out.trans (hb2.mono HB0.out.size))
    obtain ⟨xl, xc⟩ := HX0.out.below hb2
    have p2 : w2.cell? ⟨w.heap.size, 2, none⟩ = some (.int .i64 sq) := xc 2 (by simp)
    have p3 : w2.cell? ⟨w.heap.size, 3, none⟩ = some (.slice la ll lc) := xc 3 (by simp)
    clear xc hb2
    go_wp2_with fail
    go_ret
    exact ⟨ret_bool HQ.out, HB2.out⟩
  · have q5 : ¬ sq = 0 := of_decide_eq_false h5.symm
    have q5' : (sq == 0) = false := by simpa using q5
    have HQ : Hid (decide (0 < ll) = false) := hid_intro h6.symm
    clear h5 h6
    go_enter Tryz.func117, Tryz.ntmps117
    go_wp2_with (first | (go_at_call 115; refine (H1.out _).mono ?_; rintro e w1 ⟨rfl, rfl⟩) | (go_at_call 65; refine (H2.out _).mono ?_; rintro e w1 ⟨rfl, rfl⟩) | (go_at_call 99; refine (H3.out _).mono ?_; rintro e w1 ⟨rfl, rfl⟩))
    refine (H4.out _ HB0.out).mono ?_
    rintro e w2 ⟨rfl, hb2⟩
    have HB2 := hid_intro (HB0.out.trans (hb2.mono HB0.out.size))
    obtain ⟨xl, xc⟩ := HX0.out.below hb2
    have p2 : w2.cell? ⟨w.heap.size, 2, none⟩ = some (.int .i64 sq) := xc 2 (by simp)
    have p3 : w2.cell? ⟨w.heap.size, 3, none⟩ = some (.slice la ll lc) := xc 3 (by simp)
    clear xc hb2
    go_wp2_with fail
    go_ret
    exact ⟨ret_bool HQ.out, HB2.out⟩
theorem impl_doc (x : D) (la : Option Addr) (lc : Nat) (w : World) (h : x.Sm) (hL : Lis la x.ls w) : Calls Tryz.prog 140 #[.agg (dcells x la lc)] w fun e w' => e = .returned (.bool (dB x)) ∧ Below w.heap.size w w' :=
  iright_in x.a x.mo x.sq la x.ls.length lc _ _ _ _ _ _ w h.2.1 (fun W => NameR.impl_any x.a W h.1) (fun W => iMon x.mo W) (fun W => inW x.sq 0 1000000 W) (fun W hW => impl_lines la lc x.ls W h.2.1 h.2.2 (hL.below hW)) rfl rfl
theorem spec_doc (x : D) (la : Option Addr) (lc : Nat) (w : World) (h : x.Sm) (hL : Lis la x.ls w) : Calls Tryz.prog 117 #[.agg (dcells x la lc)] w fun e w' => e = .returned (.bool (dB x)) ∧ Below w.heap.size w w' :=
  sright_in x.a x.mo x.sq la x.ls.length lc _ _ _ _ _ _ w h.2.1 (fun W => NameR.spec_any x.a W h.1) (fun W => sMon x.mo W) (fun W => isW x.sq 0 1000000 W) (fun W hW => spec_lines la lc x.ls W h.2.1 h.2.2 (hL.below hW)) rfl rfl
end DocR
end Go.Proofs.YtjfmdcdclifpkaaGreatDoor
namespace Go.Proofs.YtjfmdcdclifpkaaGreatDoor
open Go.ChangeShapes Go.WideShapes Go.ChangeAt Go.RowKit
set_option linter.unusedVariables false
namespace LedR
open LinR RowG LtR NetR DocR
/-- Is it of this account and month? -/
def of (a : ByteArray) (m : Int) (d : D) : Bool := d.a.toList == a.toList && d.mo == m
theorem of_iff {a : ByteArray} {m : Int} {d : D} : of a m d = true ↔ d.a = a ∧ d.mo = m := by
  unfold of
  simp only [Bool.and_eq_true, beq_iff_eq]
  exact ⟨fun h => ⟨toList_inj h.1, h.2⟩, fun h => ⟨by rw [h.1], h.2⟩⟩
theorem of_self (d : D) : of d.a d.mo d = true := of_iff.2 ⟨rfl, rfl⟩
def D.zero : D := ⟨⟨#[]⟩, 0, 0, []⟩
/-- How many there are of it, and what they come to. -/
def cnt (ds : List D) (a : ByteArray) (m : Int) : Nat := (ds.filter (of a m)).length
def net (ds : List D) (a : ByteArray) (m : Int) : List N := ds.foldl (fun L d => bif of a m d then all L d.ls 1 else L) []
theorem tk_more (ds : List D) (k : Nat) (h : k < ds.length) : ds.take (k + 1) = ds.take k ++ [ds.getD k D.zero] := take_more (z := D.zero) ds k h
theorem cnt_more (ds : List D) (k : Nat) (h : k < ds.length) (a : ByteArray) (m : Int) : cnt (ds.take (k + 1)) a m = cnt (ds.take k) a m + (bif of a m (ds.getD k D.zero) then 1 else 0) := by
  unfold cnt
  rw [tk_more ds k h, List.filter_append]
  generalize ds.getD k D.zero = X
  cases hx : of a m X <;> simp [hx]
theorem net_more (ds : List D) (k : Nat) (h : k < ds.length) (a : ByteArray) (m : Int) : net (ds.take (k + 1)) a m = bif of a m (ds.getD k D.zero) then all (net (ds.take k) a m) (ds.getD k D.zero).ls 1 else net (ds.take k) a m := by
  unfold net
  rw [tk_more ds k h, List.foldl_append]
  rfl
theorem cnt_le (ds : List D) (a : ByteArray) (m : Int) : cnt ds a m ≤ ds.length := List.length_filter_le _ _
theorem net_zero : ∀ {ds : List D} {a : ByteArray} {m : Int}, cnt ds a m = 0 → net ds a m = [] := by
  intro ds a m h
  unfold cnt at h
  unfold net
  have hf : ∀ d ∈ ds, of a m d = false := by
    intro d hd
    cases hx : of a m d
    · rfl
    · have : d ∈ ds.filter (of a m) := List.mem_filter.2 ⟨hd, hx⟩
      rw [List.length_eq_zero_iff.1 h] at this
      cases this
  clear h
  generalize ([] : List N) = L
  induction ds generalizing L with
  | nil => rfl
  | cons d ds ih =>
    rw [List.foldl_cons, hf d (by simp), cond_false]
    exact ih (fun d hd => hf d (by simp [hd])) L
/-- So many documents are right, and count up. -/
def SOk (ds : List D) (k : Nat) : Prop := ∀ i, i < k → dB (ds.getD i D.zero) = true ∧ (ds.getD i D.zero).sq = cnt (ds.take i) (ds.getD i D.zero).a (ds.getD i D.zero).mo
def NOk (ds : List D) (k : Nat) : Prop := ∀ i, i < k → ovB (net ds (ds.getD i D.zero).a (ds.getD i D.zero).mo) = true
def LRight (ds : List D) : Prop := ds.length ≤ 30 ∧ SOk ds ds.length ∧ NOk ds ds.length
def SOkDec (ds : List D) (k : Nat) : Decidable (SOk ds k) := inferInstanceAs (Decidable (∀ i, i < k → dB (ds.getD i D.zero) = true ∧ (ds.getD i D.zero).sq = cnt (ds.take i) (ds.getD i D.zero).a (ds.getD i D.zero).mo))
def NOkDec (ds : List D) (k : Nat) : Decidable (NOk ds k) := inferInstanceAs (Decidable (∀ i, i < k → ovB (net ds (ds.getD i D.zero).a (ds.getD i D.zero).mo) = true))
def LRightDec (ds : List D) : Decidable (LRight ds) :=
  haveI := SOkDec ds ds.length
  haveI := NOkDec ds ds.length
  inferInstanceAs (Decidable (ds.length ≤ 30 ∧ SOk ds ds.length ∧ NOk ds ds.length))
def lB (ds : List D) : Bool := @decide (LRight ds) (LRightDec ds)
theorem lB_no {ds : List D} (h : ¬ LRight ds) : lB ds = false := by unfold lB; exact @decide_eq_false _ (LRightDec ds) h
theorem lB_yes {ds : List D} (h : LRight ds) : lB ds = true := by unfold lB; exact @decide_eq_true _ (LRightDec ds) h
theorem lB_iff {ds : List D} : lB ds = true ↔ LRight ds := by unfold lB; exact @decide_eq_true_iff _ (LRightDec ds)
theorem SOk.zero (ds : List D) : SOk ds 0 := fun i h => absurd h (by omega)
theorem SOk.more {ds : List D} {k : Nat} (h : SOk ds k) (h1 : dB (ds.getD k D.zero) = true) (h2 : (ds.getD k D.zero).sq = cnt (ds.take k) (ds.getD k D.zero).a (ds.getD k D.zero).mo) : SOk ds (k + 1) := by
  intro i hi
  by_cases e : i = k
  · subst e; exact ⟨h1, h2⟩
  · exact h i (by omega)
theorem dB_lines {x : D} (h : dB x = true) : SRight x.ls := by
  unfold dB at h
  simp only [Bool.and_eq_true] at h
  exact sB_iff.1 h.2.2.2.1
theorem mem_cnt {ds : List D} {a : ByteArray} {m : Int} (h : cnt ds a m ≠ 0) : ∃ i, i < ds.length ∧ (ds.getD i D.zero).a = a ∧ (ds.getD i D.zero).mo = m := by
  unfold cnt at h
  have : ds.filter (of a m) ≠ [] := fun e => h (by rw [e]; rfl)
  obtain ⟨d, hd⟩ := List.exists_mem_of_ne_nil _ this
  obtain ⟨h1, h2⟩ := List.mem_filter.1 hd
  obtain ⟨i, hi, rfl⟩ := List.getElem_of_mem h1
  refine ⟨i, hi, ?_⟩
  have e2 : ds.getD i D.zero = ds[i] := by simp [List.getD, hi]
  rw [e2]
  exact of_iff.1 h2
theorem cnt_mem {ds : List D} {i : Nat} (hi : i < ds.length) : cnt ds (ds.getD i D.zero).a (ds.getD i D.zero).mo ≠ 0 := by
  unfold cnt
  have e2 : ds.getD i D.zero ∈ ds := getD_mem (z := D.zero) ds i hi
  have : ds.getD i D.zero ∈ ds.filter (of (ds.getD i D.zero).a (ds.getD i D.zero).mo) := List.mem_filter.2 ⟨e2, of_self _⟩
  intro h
  rw [List.length_eq_zero_iff.1 h] at this
  cases this
/-- All of so many right documents: the nets rise, are small, and far from running over. -/
theorem net_facts {ds : List D} : ∀ k, k ≤ ds.length → SOk ds k → ∀ a m, Rise (net (ds.take k) a m) ∧ (net (ds.take k) a m).length ≤ 6 * k ∧ (∀ y ∈ net (ds.take k) a m, -(6000000000000000 * (k : Int)) ≤ y.n ∧ y.n ≤ 6000000000000000 * (k : Int))
  | 0, _, _, a, m => by simp [net, Rise]
  | k + 1, hk, h, a, m => by
    obtain ⟨i1, i2, i3⟩ := net_facts k (by omega) (fun i hi => h i (by omega)) a m
    rw [net_more ds k (by omega)]
    have hr := dB_lines (h k (by omega)).1
    generalize ds.getD k D.zero = X at *
    cases of a m X
    · rw [cond_false]
      exact ⟨i1, by omega, fun y hy => by have := i3 y hy; omega⟩
    · rw [cond_true]
      refine ⟨rise_all _ _ i1, by have := all_len (net (ds.take k) a m) X.ls 1; have := hr.1; omega, ?_⟩
      have key : ∀ (b : List N) (L : List N) (B : Int), 0 ≤ B → (∀ y ∈ L, -B ≤ y.n ∧ y.n ≤ B) → (∀ e ∈ b, -1000000000000000 ≤ e.n ∧ e.n ≤ 1000000000000000) → ∀ y ∈ all L b 1, -(B + 1000000000000000 * (b.length : Int)) ≤ y.n ∧ y.n ≤ B + 1000000000000000 * (b.length : Int) := by
        intro b
        induction b with
        | nil => intro L B hB hL _ y hy; have := hL y hy; simp; omega
        | cons e b ih =>
          intro L B hB hL hb y hy
          have h1 := hb e (by simp)
          have h2 := ih (NetR.put L (sg 1 e)) (B + 1000000000000000) (by omega) (put_bd hB hL (by omega) (by simp only [sg]; omega)) (fun e he => hb e (by simp [he])) y hy
          simp only [List.length_cons]
          omega
      intro y hy
      have h1 := key X.ls _ (6000000000000000 * (k : Int)) (by omega) i3 (right_bd hr) y hy
      have h2 := hr.1
      omega
end LedR
end Go.Proofs.YtjfmdcdclifpkaaGreatDoor
