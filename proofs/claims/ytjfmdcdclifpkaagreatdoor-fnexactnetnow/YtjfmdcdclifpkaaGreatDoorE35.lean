/-
  NetNow on both sides: the net of an engine's documents, where the engine is right. The conditions: sizes of at most 1048576; the program's variables hold what its text lays.
  The law's own marks in a list of lines: written, and found again. The condition: at most 1048576 lines to write, 40 to find.
  Answers that are lists of lines: read, of one's own, kept, marked. The conditions: at most 1048576 lines.
-/
import Derived.Deep.RegionHeld3
import Derived.Test.YtjfmdcdclifpkaaGreatDoorE34
namespace Go.Proofs.YtjfmdcdclifpkaaGreatDoor
open Go.ChangeShapes Go.WideShapes Go.ChangeAt Go.RowKit
set_option linter.unusedVariables false
namespace EngR
open CatR LedR LinR NetR OwG
open RowG (MadeG made_nil)
/-- What NetNow answers. -/
def nnL (x : Eng) (v : Int) (a : ByteArray) (m : Int) : List N := bif engB x v then netB x.ds a m else []
theorem nnL_len {x : Eng} {v : Int} {a : ByteArray} {m : Int} : (nnL x v a m).length ≤ 180 := by
  unfold nnL
  cases engB x v
  · simp
  · exact netB_len
theorem engB_led {x : Eng} {v : Int} (h : engB x v = true) : LedR.lB x.ds = true := by
  unfold engB at h
  simp only [Bool.and_eq_true] at h
  exact h.1.1.1.2
set_option maxHeartbeats 4000000 in
theorem inn_in (ma : Option Addr) (ml mc : Nat) (ca : Option Addr) (cl cc : Nat) (sa : Option Addr) (sl sc : Nat) (ea : Option Addr) (el ec : Nat) (ua : Option Addr) (ul uc : Nat) (da : Option Addr) (dl dc : Nat) (fr : Int) (a : ByteArray) (m : Int) (b : Bool) (D : List N) (w : World)
    (h1 : ∀ W, Below w.heap.size w W → Calls Tryz.prog 31 #[.agg #[.slice ma ml mc, .slice ca cl cc, .slice sa sl sc, .slice ea el ec, .slice ua ul uc, .slice da dl dc, .int .i64 fr]] W fun e w' => e = .returned (.bool b) ∧ Below W.heap.size W w')
    (h2 : ∀ W, Below w.heap.size w W → Calls Tryz.prog 32 #[.slice da dl dc, .string a, .int .i64 m] W fun e w' => ResL W D e w') :
    Calls Tryz.prog 8 #[.agg #[.slice ma ml mc, .slice ca cl cc, .slice sa sl sc, .slice ea el ec, .slice ua ul uc, .slice da dl dc, .int .i64 fr], .string a, .int .i64 m] w fun e w' => ResL w (bif b then D else []) e w' := by
  have H1 := hid_intro h1
  have H2 := hid_intro h2
  clear h1 h2
  obtain ⟨W0, hW0⟩ : ∃ z, z = w.alloc (.cells #[.slice ma ml mc, .slice ca cl cc, .slice sa sl sc, .slice ea el ec, .slice ua ul uc, .slice da dl dc, .int .i64 fr] 44) := ⟨_, rfl⟩
  have hal : Below w.heap.size w W0 := by rw [hW0]; exact (Below.refl _ _).alloc (Nat.le_refl _) _
  have hA : Blk w.heap.size [.slice ma ml mc, .slice ca cl cc, .slice sa sl sc, .slice ea el ec, .slice ua ul uc, .slice da dl dc, .int .i64 fr] W0 := by rw [hW0]; exact Blk.new w _ _
  have HB := hid_intro hal
  have HA := hid_intro hA
  have HW := hid_intro hW0
  clear hal hA hW0
  go_enter Tryz.func8, Tryz.ntmps8
  go_wp2_with fail
  rw [← HW.out]
  clear HW
  refine (H1.out _ HB.out).mono ?_
  rintro e w1 ⟨rfl, hb⟩
  replace HB := hid_intro (HB.out.trans (hb.mono HB.out.size))
  replace HA := hid_intro (HA.out.below hb)
  clear hb
  cases b
  · go_wp2_with fail
    go_ret
    exact ⟨none, 0, rfl, made_nil _ _ _, HB.out⟩
  have al := HA.out.1
  have c5 : w1.cell? ⟨w.heap.size, 5, none⟩ = some (.slice da dl dc) := HA.out.2 5 (by simp)
  go_wp2_with fail
  refine (H2.out _ HB.out).mono ?_
  rintro e w2 ⟨ao, cap, rfl, hm, hb⟩
  have HM := hid_intro (hm.low HB.out.size)
  replace HB := hid_intro (HB.out.trans (hb.mono HB.out.size))
  clear hb hm
  go_wp2_with fail
  go_ret
  exact ⟨ao, cap, rfl, HM.out, HB.out⟩
theorem impl_nn (val : Value) (x : Eng) (v : Int) (a : ByteArray) (m : Int) (w : World) (hS : x.Small) (hE : IsEng val x w) (hwf : ∀ d ∈ x.ds, (Lit.int .i64 d.mo).wf = true) (hg : LedR.Good a m) (hL : ∀ W, Below w.heap.size w W → CatR.Laid W) (hL2 : ∀ W, Below w.heap.size w W → DateR.Laid W)
    (hv : 0 ≤ x.fr → x.fr ≤ 2760 → ∀ W, Below w.heap.size w W → Calls Tryz.prog 133 #[.int .i64 x.fr] W fun e w' => e = .returned (.int .i64 v) ∧ Below W.heap.size W w') :
    Calls Tryz.prog 8 #[val, .string a, .int .i64 m] w fun e w' => ResL w (nnL x v a m) e w' := by
  have hE' := hE
  obtain ⟨ma, mc, ca, cc, sa, sc, ea, ec, ua, uc, da, dc, rfl, q1, q2, q3, q4, q5, q6⟩ := hE'
  exact inn_in ma _ mc ca _ cc sa _ sc ea _ ec ua _ uc da _ dc x.fr a m (engB x v) (netB x.ds a m) w
    (fun W hW => impl_eng _ x v W hS (hE.below hW) hwf (fun W2 h2 => hL W2 (hW.trans (h2.mono hW.size))) (fun W2 h2 => hL2 W2 (hW.trans (h2.mono hW.size))) (fun a b W2 h2 => hv a b W2 (hW.trans (h2.mono hW.size))))
    (fun W hW => impl_net da dc x.ds a m W hS.dl hS.ds hwf hg (q6.below hW))
set_option maxHeartbeats 4000000 in
theorem snn_in (ma : Option Addr) (ml mc : Nat) (ca : Option Addr) (cl cc : Nat) (sa : Option Addr) (sl sc : Nat) (ea : Option Addr) (el ec : Nat) (ua : Option Addr) (ul uc : Nat) (da : Option Addr) (dl dc : Nat) (fr : Int) (a : ByteArray) (m : Int) (b : Bool) (D T : List N) (w : World)
    (h1 : ∀ W, Below w.heap.size w W → Calls Tryz.prog 24 #[.agg #[.slice ma ml mc, .slice ca cl cc, .slice sa sl sc, .slice ea el ec, .slice ua ul uc, .slice da dl dc, .int .i64 fr]] W fun e w' => e = .returned (.bool b) ∧ Below W.heap.size W w')
    (h2 : b = true → ∀ W, Below w.heap.size w W → Calls Tryz.prog 25 #[.slice da dl dc, .string a, .int .i64 m] W fun e w' => ∃ v, e = .returned v ∧ OwnN w' W.heap.size v D ∧ Below W.heap.size W w')
    (e0 : 8000 < a.size → T = []) (e1 : b = false → T = []) (e2 : b = true → T = D) :
    Calls Tryz.prog 6 #[.agg #[.slice ma ml mc, .slice ca cl cc, .slice sa sl sc, .slice ea el ec, .slice ua ul uc, .slice da dl dc, .int .i64 fr], .string a, .int .i64 m] w fun e w' => ResL w T e w' := by
  have H1 := hid_intro h1
  have H2 := hid_intro h2
  have E1 := hid_intro e1
  have E2 := hid_intro e2
  have E0 := hid_intro e0
  have HBz := hid_intro (fun W (h : Below w.heap.size w W) => h.alloc h.size (.cells #[] 72))
  clear h1 h2 e0 e1 e2
  generalize hsz : a.size = sz at *
  obtain ⟨W0, hW0⟩ : ∃ z, z = w.alloc (.cells #[.slice ma ml mc, .slice ca cl cc, .slice sa sl sc, .slice ea el ec, .slice ua ul uc, .slice da dl dc, .int .i64 fr] 44) := ⟨_, rfl⟩
  have hal : Below w.heap.size w W0 := by rw [hW0]; exact (Below.refl _ _).alloc (Nat.le_refl _) _
  have hA : Blk w.heap.size [.slice ma ml mc, .slice ca cl cc, .slice sa sl sc, .slice ea el ec, .slice ua ul uc, .slice da dl dc, .int .i64 fr] W0 := by rw [hW0]; exact Blk.new w _ _
  have HB := hid_intro hal
  have HA := hid_intro hA
  have HW := hid_intro hW0
  clear hal hA hW0
  by_cases qb : 8000 < sz
  · have qb2 : (8000 : Int) < (sz : Int) := by omega
    have HE := hid_intro (E0.out qb)
    go_enter Tryz.func6, Tryz.ntmps6
    go_wp2_with fail
    rw [← HW.out]
    go_ret
    rw [HE.out]
    have hsz0 : W0.heap.size = w.heap.size + 1 := by rw [HW.out]; simp
    have ho := own_empty W0 w.heap.size 72 2 HB.out.size
    rw [hsz0] at ho
    exact resL_own ho (HBz.out _ HB.out)
  have qb2 : ¬ (8000 : Int) < (sz : Int) := by omega
  go_enter Tryz.func6, Tryz.ntmps6
  go_wp2_with fail
  rw [← HW.out]
  clear HW
  refine (H1.out _ HB.out).mono ?_
  rintro e w1 ⟨rfl, hb⟩
  replace HB := hid_intro (HB.out.trans (hb.mono HB.out.size))
  replace HA := hid_intro (HA.out.below hb)
  clear hb
  cases b
  · have HE := hid_intro (E1.out rfl)
    go_wp2_with fail
    go_ret
    rw [HE.out]
    exact resL_own (own_empty w1 w.heap.size 72 2 HB.out.size) (HBz.out _ HB.out)
  have HE := hid_intro (E2.out rfl)
  have al := HA.out.1
  have c5 : w1.cell? ⟨w.heap.size, 5, none⟩ = some (.slice da dl dc) := HA.out.2 5 (by simp)
  go_wp2_with fail
  refine (H2.out (by trivial) _ HB.out).mono ?_
  rintro e w2 ⟨v, rfl, hv, hb⟩
  have HV : Hid (OwnN w2 w.heap.size v D) := hid_intro ⟨LinR.own_low hv.1 HB.out.size, hv.2⟩
  replace HB := hid_intro (HB.out.trans (hb.mono HB.out.size))
  clear hv hb
  go_wp2_with fail
  go_ret
  rw [HE.out]
  exact resL_own HV.out.1 HB.out
theorem spec_nn (val : Value) (x : Eng) (v : Int) (a : ByteArray) (m : Int) (w : World) (hS : x.Small) (hE : IsEng val x w)
    (hv : 0 ≤ x.fr → x.fr ≤ 2760 → ∀ W, Below w.heap.size w W → Calls Tryz.prog 69 #[.int .i64 x.fr] W fun e w' => e = .returned (.int .i64 v) ∧ Below W.heap.size W w') :
    Calls Tryz.prog 6 #[val, .string a, .int .i64 m] w fun e w' => ResL w (nnL x v a m) e w' := by
  have hE' := hE
  obtain ⟨ma, mc, ca, cc, sa, sc, ea, ec, ua, uc, da, dc, rfl, q1, q2, q3, q4, q5, q6⟩ := hE'
  refine snn_in ma _ mc ca _ cc sa _ sc ea _ ec ua _ uc da _ dc x.fr a m (engB x v) (clL (net x.ds a m)) (nnL x v a m) w
    (fun W hW => spec_eng _ x v W hS (hE.below hW) (fun a b W2 h2 => hv a b W2 (hW.trans (h2.mono hW.size))))
    (fun h W hW => snet da dc x.ds a m W (lB_iff.1 (engB_led h)) (q6.below hW)) (fun h => ?_) (fun h => ?_) (fun h => ?_)
  · unfold nnL
    cases he : engB x v
    · rfl
    · rw [cond_true, netB, engB_led he, cond_true, net_long (lB_iff.1 (engB_led he)) h]; rfl
  · unfold nnL; rw [h]; rfl
  · unfold nnL; rw [h, cond_true, netB, engB_led h, cond_true]
end EngR
end Go.Proofs.YtjfmdcdclifpkaaGreatDoor
namespace Go.Proofs.YtjfmdcdclifpkaaGreatDoor
open Go.ChangeShapes Go.WideShapes Go.ChangeAt Go.RowKit
set_option linter.unusedVariables false
namespace LinR
open RowG
open EvtR (Pt)
open MarkR (mk mT mark_any)
/-- A marked line. -/
def mN (k : Nat) : N := ⟨mT k, ((k + 1 : Nat) : Int)⟩
/-- The cells of marked lines. -/
def mC (o : Nat) : Option Value := (mN (1 + 2 * (o / 2))).cells[o % 2]?
theorem mC_at (i x : Nat) (hx : x < 2) : mC (i * 2 + x) = (mN (1 + 2 * i)).cells[x]? := by
  have e1 : (i * 2 + x) / 2 = i := by omega
  have e2 : (i * 2 + x) % 2 = x := by omega
  unfold mC
  rw [e1, e2]
theorem rgrown {w w' : World} (hb : Below w.heap.size w w') (row : Option Nat) : w.grownBy w' row := ⟨hb.os, hb.tape, hb.output, hb.size, fun k hk _ => hb.block k hk⟩
theorem gtrans {w w1 w2 : World} {g : Option Nat} (h1 : w.grownBy w1 g) (h2 : w1.grownBy w2 g) : w.grownBy w2 g :=
  ⟨h2.os.trans h1.os, h2.tape.trans h1.tape, h2.output.trans h1.output, Nat.le_trans h1.size h2.size, fun k hk hne => (h2.block k (by have := h1.size; omega) hne).trans (h1.block k hk hne)⟩
/-- One more cell marked. -/
theorem mark_step {g m i : Nat} {w0 w : World} (hp : Pt g m w) (x : Nat) (hm : Wr mC (i * 2 + x) g w) (hg : w0.grownBy w (some g)) (hx : x < 2) (hj : i * 2 + x < m) (v : Value) (hv : (mN (1 + 2 * i)).cells[x]? = some v) :
    Pt g m (w.setCell ⟨g, i * 2 + x, none⟩ v) ∧ Wr mC (i * 2 + (x + 1)) g (w.setCell ⟨g, i * 2 + x, none⟩ v) ∧ w0.grownBy (w.setCell ⟨g, i * 2 + x, none⟩ v) (some g) :=
  ⟨hp.set _ _, hm.more hp hj v ((mC_at i x hx).trans hv), gtrans hg (grown_set _ g _ _)⟩
set_option maxRecDepth 100000 in
set_option maxHeartbeats 4000000 in
theorem marks_any (g n cap : Nat) (w : World) (hn : n ≤ 1048576) (h0 : Pt g (n * 2) w) :
    Calls Tryz.prog 12 #[.slice (some ⟨g, 0, none⟩) n cap, .int .i64 1] w fun e w' => e = .returned (.int .i64 (1 + 2 * n : Nat)) ∧ Pt g (n * 2) w' ∧ Wr mC (n * 2) g w' ∧ w.grownBy w' (some g) := by
  have HP := hid_intro h0
  have HT : Hid (∀ (z : Int) (K : Nat), z = K → 1 ≤ K → K < 100000000 → ∀ w, Calls Tryz.prog 44 #[.int .i64 z] w fun e w' => e = .returned (.string (mT K)) ∧ Below w.heap.size w w') := hid_intro (fun z K e h0 h w => by subst e; exact mark_any K h0 h w)
  clear h0
  go_enter Tryz.func12, Tryz.ntmps12
  go_wp2_with fail
  go_loopw [5, 1] (fun x z wr => ∃ i : Nat, x = .int .i64 (i : Int) ∧ z = .int .i64 (1 + 2 * (i : Int)) ∧ i ≤ n ∧ Hid (Pt g (n * 2) wr) ∧ Hid (Wr mC (i * 2) g wr) ∧ Hid (w.grownBy wr (some g))) (fun x _ _ => n - (intOf x).toNat)
  case atStart => exact ⟨0, rfl, rfl, by omega, HP, hid_intro (fun o ho => absurd ho (by omega)), hid_intro ⟨rfl, rfl, rfl, Nat.le_refl _, fun _ _ _ => rfl⟩⟩
  case round =>
    obtain ⟨i, rfl, rfl, hi, HP, HM, HG⟩ := hrel
    by_cases hin : i = n
    · subst hin
      go_wp2_with fail
      go_ret
      exact ⟨by go_num, HP.out, HM.out, HG.out⟩
    · have h1 : (i : Int) < (n : Int) := by omega
      go_wp2_with fail
      refine (HT.out _ (1 + 2 * i) (by push_cast; omega) (by omega) (by omega) _).mono ?_
      rintro e w1 ⟨rfl, hb⟩
      have HP1 := hid_intro (HP.out.below hb)
      have HM1 := hid_intro (HM.out.below HP.out hb)
      have HG1 := hid_intro (gtrans HG.out (rgrown hb _))
      obtain ⟨v0, c0⟩ := HP1.out.has (i * 2) (by omega)
      have f0 := HP1.out.free (i * 2) (by omega)
      obtain ⟨v1, c1⟩ := HP1.out.has (i * 2 + 1) (by omega)
      have f1 := HP1.out.free (i * 2 + 1) (by omega)
      have HS := hid_intro (mark_step (i := i) HP1.out 0 HM1.out HG1.out (by omega) (by omega) (.string (mT (1 + 2 * i))) rfl)
      have HS2 := hid_intro (mark_step (i := i) HS.out.1 1 HS.out.2.1 HS.out.2.2 (by omega) (by omega) (.int .i64 (1 + 2 * (i : Int) + 1)) (by simp [mN, N.cells]))
      clear hb HP HM HG HP1 HM1 HG1 HS
      go_wp2_with fail
      go_roundw
      case rel => exact ⟨i + 1, by go_num, by go_num, by omega, hid_intro HS2.out.1, hid_intro (by have := HS2.out.2.1; rw [show (i + 1) * 2 = i * 2 + (1 + 1) by omega]; exact this), hid_intro HS2.out.2.2⟩
      case measure => simp [intOf]; omega
theorem mC_cell {n i g : Nat} {w : World} (h : Wr mC (n * 2) g w) (hi : i < n) (x : Nat) (hx : x < 2) : w.cell? ⟨g, i * 2 + x, none⟩ = (mN (1 + 2 * i)).cells[x]? :=
  (h (i * 2 + x) (by omega)).trans (mC_at i x hx)
/-- One line's marks, in a world grown. -/
def BoxM (w : World) (g o : Nat) (t0 : ByteArray) (n : Int) (w' : World) : Prop := Below w.heap.size w w' ∧ g < w'.heap.size ∧ w'.cell? ⟨g, o, none⟩ = some (.string t0) ∧ w'.cell? ⟨g, o + 1, none⟩ = some (.int .i64 n)
theorem BoxM.below {w w1 w2 : World} {g o : Nat} {t0 : ByteArray} {n : Int} (h : BoxM w g o t0 n w1) (hb : Below w1.heap.size w1 w2) : BoxM w g o t0 n w2 := by
  obtain ⟨h0, hl, c0, c1⟩ := h
  have c := fun x => hb.cell (p := ⟨g, x, none⟩) hl
  exact ⟨h0.trans (hb.mono h0.size), by have := hb.size; omega, (c _).trans c0, (c _).trans c1⟩
theorem BoxM.drew {w w1 : World} {g o : Nat} {t0 : ByteArray} {n : Int} (h : BoxM w g o t0 n w1) : BoxM w g o t0 n w1.drew := ⟨h.1.drew, h.2⟩
set_option maxRecDepth 100000 in
set_option maxHeartbeats 4000000 in
theorem held_any (g n cap : Nat) (w : World) (hn : n ≤ 1048576) (h0 : Pt g (n * 2) w) (hm : Wr mC (n * 2) g w) :
    Calls Tryz.prog 13 #[.slice (some ⟨g, 0, none⟩) n cap, .int .i64 1] w fun e w' => e = .returned (.int .i64 (1 + 2 * n : Nat)) ∧ Below w.heap.size w w' := by
  have HP := hid_intro h0
  have HM := hid_intro hm
  clear h0 hm
  go_enter Tryz.func13, Tryz.ntmps13
  go_wp2_with fail
  go_loopw [5, 1] (fun x z wr => ∃ i : Nat, x = .int .i64 (i : Int) ∧ z = .int .i64 (1 + 2 * (i : Int)) ∧ i ≤ n ∧ Hid (Below w.heap.size w wr)) (fun x _ _ => n - (intOf x).toNat)
  case atStart => exact ⟨0, rfl, rfl, by omega, hid_intro (Below.refl _ _)⟩
  case round =>
    obtain ⟨i, rfl, rfl, hi, HB⟩ := hrel
    by_cases hin : i = n
    · subst hin
      go_wp2_with fail
      go_ret
      exact ⟨by go_num, HB.out⟩
    · have h1 : (i : Int) < (n : Int) := by omega
      have HC : Hid (∀ x, x < 2 → wr.cell? ⟨g, i * 2 + x, none⟩ = (mN (1 + 2 * i)).cells[x]?) := hid_intro (fun x hx => (HB.out.cell (p := ⟨g, i * 2 + x, none⟩) HP.out.lt).trans (mC_cell HM.out (by omega) x hx))
      have q0 : wr.cell? ⟨g, i * 2, none⟩ = some (.string (mT (1 + 2 * i))) := HC.out 0 (by omega)
      have q1 : wr.cell? ⟨g, i * 2 + 1, none⟩ = some (.int .i64 (1 + 2 * (i : Int) + 1)) := (HC.out 1 (by omega)).trans (by simp [mN, N.cells])
      have HT0 : Hid (∀ w, Calls Tryz.prog 44 #[.int .i64 (1 + 2 * (i : Int))] w fun e w' => e = .returned (.string (mT (1 + 2 * i))) ∧ Below w.heap.size w w') := hid_intro (fun w => by have := mark_any (1 + 2 * i) (by omega) (by omega) w; rw [show ((1 + 2 * i : Nat) : Int) = 1 + 2 * (i : Int) by omega] at this; exact this)
      clear HC
      generalize mT (1 + 2 * i) = T0 at *
      have HS0 : Hid (BoxM w g (i * 2) T0 (1 + 2 * (i : Int) + 1) wr) := hid_intro ⟨HB.out, by have := HB.out.size; have := HP.out.lt; omega, q0, q1⟩
      have HS1 := hid_intro HS0.out.drew
      go_wp2_with fail
      go_region_held3 (fun w' => Below w.heap.size w w' ∧ g < w'.heap.size ∧ w'.cell? ⟨g, i * 2, none⟩ = some (.string T0) ∧ w'.cell? ⟨g, i * 2 + 1, none⟩ = some (.int .i64 (1 + 2 * (i : Int) + 1))) (first | assumption | (exact HS0.out) | (exact HS1.out) | (exact BoxM.below (w := w) (g := g) (o := i * 2) (t0 := T0) (n := 1 + 2 * (i : Int) + 1) (by assumption) hb))
        (first | (go_at_call 44; refine (HT0.out _).mono ?_; rintro e w' ⟨rfl, hb⟩))
      rename_i hS
      replace HS0 := hid_intro hS
      have q0 := HS0.out.2.2.1
      have q1 := HS0.out.2.2.2
      clear hS HS1
      have HB2 := hid_intro HS0.out.1
      go_wp2_with fail
      go_roundw
      case rel => exact ⟨i + 1, by go_num, by go_num, by omega, HB2⟩
      case measure => simp [intOf]; omega
set_option maxHeartbeats 4000000 in
theorem marks_nil (ao : Option Addr) (cap : Nat) (w : World) : Calls Tryz.prog 12 #[.slice ao 0 cap, .int .i64 1] w fun e w' => e = .returned (.int .i64 1) ∧ Below w.heap.size w w' := by
  go_enter Tryz.func12, Tryz.ntmps12
  go_wp2_with fail
  go_loopw [5, 1] (fun x z wr => x = .int .i64 0 ∧ z = .int .i64 1 ∧ Hid (Below w.heap.size w wr)) (fun x _ _ => 0)
  case atStart => exact ⟨rfl, rfl, hid_intro (Below.refl _ _)⟩
  case round =>
    obtain ⟨rfl, rfl, HB⟩ := hrel
    go_wp2_with fail
    go_ret
    exact ⟨rfl, HB.out⟩
set_option maxHeartbeats 4000000 in
theorem held_nil (ao : Option Addr) (cap : Nat) (w : World) : Calls Tryz.prog 13 #[.slice ao 0 cap, .int .i64 1] w fun e w' => e = .returned (.int .i64 1) ∧ Below w.heap.size w w' := by
  go_enter Tryz.func13, Tryz.ntmps13
  go_wp2_with fail
  go_loopw [5, 1] (fun x z wr => x = .int .i64 0 ∧ z = .int .i64 1 ∧ Hid (Below w.heap.size w wr)) (fun x _ _ => 0)
  case atStart => exact ⟨rfl, rfl, hid_intro (Below.refl _ _)⟩
  case round =>
    obtain ⟨rfl, rfl, HB⟩ := hrel
    go_wp2_with fail
    go_ret
    exact ⟨rfl, HB.out⟩
/-- The marks stand in the list. -/
def Mkd (ao : Option Addr) (n : Nat) (w : World) : Prop := n = 0 ∨ ∃ g, ao = some ⟨g, 0, none⟩ ∧ Pt g (n * 2) w ∧ Wr mC (n * 2) g w
theorem Mkd.below {ao : Option Addr} {n : Nat} {w w' : World} (h : Mkd ao n w) (hb : Below w.heap.size w w') : Mkd ao n w' := by
  rcases h with h | ⟨g, rfl, hp, hm⟩
  · exact .inl h
  · exact .inr ⟨g, rfl, hp.below hb, hm.below hp hb⟩
theorem heldL (ao : Option Addr) (n cap : Nat) (w : World) (hn : n ≤ 1048576) (h : Mkd ao n w) :
    Calls Tryz.prog 13 #[.slice ao n cap, .int .i64 1] w fun e w' => e = .returned (.int .i64 (1 + 2 * n : Nat)) ∧ Below w.heap.size w w' := by
  rcases h with rfl | ⟨g, rfl, hp, hm⟩
  · exact held_nil ao cap w
  · exact held_any g n cap w hn hp hm
theorem markL (base : Nat) (ao : Option Addr) (l : List N) (cap : Nat) (w : World) (top : Nat) (hn : l.length ≤ 1048576) (h : MadeG 2 N.cells N.zero base ao l w) (ht : l.length = 0 ∨ ∀ g, ao = some ⟨g, 0, none⟩ → g < top) :
    Calls Tryz.prog 12 #[.slice ao l.length cap, .int .i64 1] w fun e w' => e = .returned (.int .i64 (1 + 2 * l.length : Nat)) ∧ Mkd ao l.length w' ∧ ∃ g, w.grownBy w' g ∧ ∀ x, g = some x → base ≤ x ∧ x < top := by
  rcases Nat.eq_zero_or_pos l.length with h0 | h0
  · rw [h0]
    exact (marks_nil ao cap w).mono fun e w' h => ⟨h.1, .inl rfl, none, rgrown h.2 _, by simp⟩
  · obtain ⟨g, rfl, hg, hp⟩ := h.own.resolve_left (by omega)
    have htp := ht.resolve_left (by omega) g rfl
    exact (marks_any g l.length cap w hn hp).mono fun e w' h => ⟨h.1, .inr ⟨g, rfl, h.2.1, h.2.2.1⟩, some g, h.2.2.2, fun x hx => by cases hx; exact ⟨hg, htp⟩⟩
end LinR
end Go.Proofs.YtjfmdcdclifpkaaGreatDoor
namespace Go.Proofs.YtjfmdcdclifpkaaGreatDoor
open Go.ChangeShapes Go.WideShapes Go.ChangeAt Go.RowKit
set_option linter.unusedVariables false
namespace EngR
open LinR NetR ChG
open RowG (MadeG)
open EvtR (Pt)
def LnR (D : List N) (v : Value) (W : World) : Prop := ∃ ao cap, v = .slice ao D.length cap ∧ Lis ao D W
def LnW (D : List N) (b : Nat) (v : Value) (W : World) : Prop := ∃ ao cap, v = .slice ao D.length cap ∧ MadeG 2 N.cells N.zero b ao D W
theorem LnR.below {D : List N} {v : Value} {W W' : World} (h : LnR D v W) (hb : Below W.heap.size W W') : LnR D v W' := by
  obtain ⟨ao, cap, e, h⟩ := h
  exact ⟨ao, cap, e, h.below hb⟩
theorem LnW.reads {D : List N} {b : Nat} {v : Value} {W : World} (h : LnW D b v W) : LnR D v W := by
  obtain ⟨ao, cap, e, h⟩ := h
  exact ⟨ao, cap, e, h.rws⟩
theorem made_kq {b : Nat} {ao : Option Addr} {D : List N} {W W' : World} (h : MadeG 2 N.cells N.zero b ao D W) (hk : Kq b W W') : MadeG 2 N.cells N.zero b ao D W' :=
  ⟨rws_kq h.rws hk (h.own.imp id (fun ⟨g, e, hg, _⟩ b' off e' => by rw [e] at e'; simp at e'; omega)), h.own.imp id (fun ⟨g, e, hg, hp⟩ => ⟨g, e, hg, hk.pt hp hg⟩)⟩
theorem LnW.kq {D : List N} {b : Nat} {v : Value} {W W' : World} (h : LnW D b v W) (hk : Kq b W W') : LnW D b v W' := by
  obtain ⟨ao, cap, e, h⟩ := h
  exact ⟨ao, cap, e, made_kq h hk⟩
theorem LnW.shape {D : List N} {b : Nat} {v : Value} {W : World} (h : LnW D b v W) : ∃ (a : Option Addr) (n c : Nat), v = .slice a n c := by
  obtain ⟨ao, cap, e, h⟩ := h
  exact ⟨ao, _, cap, e⟩
theorem resL_ln {w : World} {D : List N} {e : Ending} {w' : World} (h : ResL w D e w') : ∃ v, e = .returned v ∧ LnW D w.heap.size v w' ∧ Below w.heap.size w w' := by
  obtain ⟨ao, cap, he, hm, hb⟩ := h
  exact ⟨_, he, ⟨ao, cap, rfl, hm⟩, hb⟩
theorem eqLn {D : List N} (hn : D.length ≤ 1048576) {v v' : Value} {W : World} (h : LnR D v W) (h' : LnR D v' W) : Calls Tryz.prog 9 #[v, v'] W fun e w' => e = .returned (.bool true) ∧ Below W.heap.size W w' := by
  obtain ⟨ao, cap, rfl, h⟩ := h
  obtain ⟨ao', cap', rfl, h'⟩ := h'
  exact eqLis_any ao ao' cap cap' D W hn h h'
theorem markLn {D : List N} (hn : D.length ≤ 1048576) {b : Nat} {v : Value} {Wt W : World} (h : LnW D b v Wt) (hk : Kq b Wt W) :
    Calls Tryz.prog 12 #[v, .int .i64 1] W fun e w' => ∃ KK : Nat, e = .returned (.int .i64 KK) ∧ Chg (fun x => b ≤ x ∧ x < Wt.heap.size) W w' ∧
      ∀ w2, Below w'.heap.size w' w2 → Calls Tryz.prog 13 #[v, .int .i64 1] w2 fun e w3 => e = .returned (.int .i64 KK) ∧ Below w2.heap.size w2 w3 := by
  obtain ⟨ao, cap, rfl, h⟩ := h
  have ht : D.length = 0 ∨ ∀ g, ao = some ⟨g, 0, none⟩ → g < Wt.heap.size := h.own.imp id (fun ⟨g, e, _, hp⟩ g' e' => by
    have := hp.lt
    rw [e] at e'
    simp only [Option.some.injEq, Addr.mk.injEq, and_true] at e'
    omega)
  refine (markL b ao D cap W Wt.heap.size hn (made_kq h hk) ht).mono ?_
  rintro e w' ⟨rfl, hM, g, hg, hgt⟩
  exact ⟨_, rfl, ⟨hg.os, hg.tape, hg.output, hg.size, fun x hx hnx => hg.block x hx (fun e => hnx (hgt x e.symm))⟩, fun w2 hb => heldL ao D.length cap w2 hn (hM.below hb)⟩
end EngR
end Go.Proofs.YtjfmdcdclifpkaaGreatDoor
