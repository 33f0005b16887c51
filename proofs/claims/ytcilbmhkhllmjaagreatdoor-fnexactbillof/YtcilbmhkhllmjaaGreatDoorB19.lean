/-
  impl.BillOf. The conditions: sizes of at most 1048576; the program's variables hold what its text lays.
  impl.BillOf over a catalog and windows. The conditions: sizes of at most 1048576; the program's variables hold what its text lays.
  Lines put among others that rise by their Meters, the numbers of one Meter added; and a map of numbers by Meters, read as such a list. No condition.
-/
import Derived.Maps.OwnSet
import Derived.Sort.KeysCollected
import Derived.Test.YtcilbmhkhllmjaaGreatDoorB18
namespace Go.Proofs.YtcilbmhkhllmjaaGreatDoor
open Go.ChangeShapes Go.WideShapes Go.ChangeAt Go.RowKit
set_option linter.unusedVariables false
namespace BilR
open LtR WinR LinR
open RowG (Rws cellsAll own_below getD_mem MadeG made_nil)
open CatR (Blk Blk.new Me Ca mFd MsRight IsCa caB crF)
/-- A bill that came out, its lines one's own. -/
def BlO (w : World) (O : List N × Int) (e : Ending) (w' : World) : Prop := ∃ ao cap, e = .returned (.agg #[.slice ao O.1.length cap, .int .i64 O.2]) ∧ MadeG 2 N.cells N.zero w.heap.size ao O.1 w' ∧ Below w.heap.size w w'
/-- Two cells that may be written. -/
def Z2 (p : Nat) (w : World) : Prop := p < w.heap.size ∧ w.cell? ⟨p, 0, none⟩ = some (.slice none 0 0) ∧ w.cell? ⟨p, 1, none⟩ = some (.int .i64 0) ∧ w.frozen? ⟨p, 0, none⟩ = false ∧ w.frozen? ⟨p, 1, none⟩ = false
theorem Z2.below {p : Nat} {w w' : World} (h : Z2 p w) (hb : Below w.heap.size w w') : Z2 p w' := by
  obtain ⟨h0, h1, h2, h3, h4⟩ := h
  exact ⟨by have := hb.size; omega, (hb.cell (p := ⟨p, 0, none⟩) h0).trans h1, (hb.cell (p := ⟨p, 1, none⟩) h0).trans h2, (hb.frozen (p := ⟨p, 0, none⟩) h0).trans h3, (hb.frozen (p := ⟨p, 1, none⟩) h0).trans h4⟩
theorem Z2.new (w : World) (T : TypeId) : Z2 w.heap.size (w.alloc (Obj.cells #[.slice none 0 0, .int .i64 0] T)) :=
  ⟨by simp, by simp [go_sem], by simp [go_sem], by simp [go_sem], by simp [go_sem]⟩
theorem below2 {w W : World} (hb : Below w.heap.size w W) {p : Nat} (hp : w.heap.size ≤ p) (x y : Value) : Below w.heap.size w ((W.setCell ⟨p, 0, none⟩ x).setCell ⟨p, 1, none⟩ y) :=
  (hb.setCell (p := ⟨p, 0, none⟩) hp _).setCell (p := ⟨p, 1, none⟩) hp _
theorem made_set {base0 base p o : Nat} {ao : Option Addr} {l : List N} {w : World} (h7 : MadeG 2 N.cells N.zero base0 ao l w) (h : MadeG 2 N.cells N.zero base ao l w) (hp : p < base0) (v : Value) : MadeG 2 N.cells N.zero base ao l (w.setCell ⟨p, o, none⟩ v) := by
  have hg := RowG.grown_set w p o v
  refine ⟨?_, ?_⟩
  · rcases h.rws with h0 | ⟨b, off, e, hl, hc⟩
    · exact .inl h0
    · rcases h7.own with h0 | ⟨g, e2, hg2, _⟩
      · exact .inl h0
      · have : g = b := by rw [e] at e2; simp at e2; exact e2.1.symm
        have eb := hg.block b hl (by simp; omega)
        exact .inr ⟨b, off, e, Nat.lt_of_lt_of_le hl hg.size, fun j hj i hi => (World.cell?_of_block (a := ⟨b, off + j * 2 + i, none⟩) eb).trans (hc j hj i hi)⟩
  · refine h.own.imp id ?_
    rintro ⟨g, e, hg1, hp1⟩
    exact ⟨g, e, hg1, WinR.ptA hp1⟩
theorem made_two {base0 base p : Nat} {ao : Option Addr} {l : List N} {w : World} (h7 : MadeG 2 N.cells N.zero base0 ao l w) (h : MadeG 2 N.cells N.zero base ao l w) (hp : p < base0) {x y : Value} : MadeG 2 N.cells N.zero base ao l ((w.setCell ⟨p, 0, none⟩ x).setCell ⟨p, 1, none⟩ y) := made_set (made_set h7 h7 hp x) (made_set h7 h hp x) hp y
/-- The catalog's block, as the regions read it. -/
def BxI (w : World) (ma : Option Addr) (ml mc : Nat) (ca : Option Addr) (cl cc : Nat) (W : World) : Prop := Below w.heap.size w W ∧ w.heap.size < W.heap.size ∧ W.cell? ⟨w.heap.size, 0, none⟩ = some (.slice ma ml mc) ∧ W.cell? ⟨w.heap.size, 1, none⟩ = some (.slice ca cl cc)
theorem BxI.below {w : World} {ma : Option Addr} {ml mc : Nat} {ca : Option Addr} {cl cc : Nat} {W W' : World} (h : BxI w ma ml mc ca cl cc W) (hb : Below W.heap.size W W') : BxI w ma ml mc ca cl cc W' := by
  obtain ⟨h0, h1, c0, c1⟩ := h
  have c := fun o => hb.cell (p := ⟨w.heap.size, o, none⟩) h1
  have := hb.size
  exact ⟨h0.trans (hb.mono h0.size), by omega, (c 0).trans c0, (c 1).trans c1⟩
theorem BxI.drew {w : World} {ma : Option Addr} {ml mc : Nat} {ca : Option Addr} {cl cc : Nat} {W : World} (h : BxI w ma ml mc ca cl cc W) : BxI w ma ml mc ca cl cc W.drew := ⟨h.1.drew, h.2⟩
theorem BxI.blk {w : World} {ma : Option Addr} {ml mc : Nat} {ca : Option Addr} {cl cc : Nat} {W : World} (h : BxI w ma ml mc ca cl cc W) : Blk w.heap.size [.slice ma ml mc, .slice ca cl cc] W := by
  obtain ⟨h0, h1, c0, c1⟩ := h
  exact ⟨h1, fun i hi => by
    match i, hi with
    | 0, _ => exact c0
    | 1, _ => exact c1⟩
set_option maxRecDepth 100000 in
set_option maxHeartbeats 8000000 in
theorem ibill_in (ma : Option Addr) (ml mc : Nat) (ca : Option Addr) (cl cc : Nat) (a : ByteArray) (wo : Option Addr) (wl wc : Nat) (O : List N × Int) (r1 r2 r3 : Bool) (cr : Int) (PO : List WP → Option Addr → World → Prop) (PC PL : Value → World → Prop) (w : World) (hwl : wl ≤ 1048576)
    (e2 : 8000 < a.size ∨ 400 < wl → O = ([], 2)) (e1 : ¬ (8000 < a.size ∨ 400 < wl) → (r1 && r2 && r3) = false → O = ([], 1))
    (hA : ∀ W, Below w.heap.size w W → Calls Tryz.prog 41 #[.agg #[.slice ma ml mc, .slice ca cl cc]] W fun e w' => e = .returned (.bool r1) ∧ Below W.heap.size W w')
    (hN : ∀ W, Calls Tryz.prog 42 #[.string a] W fun e w' => e = .returned (.bool r2) ∧ Below W.heap.size W w')
    (hW : ∀ W, Below w.heap.size w W → Calls Tryz.prog 43 #[.slice wo wl wc] W fun e w' => e = .returned (.bool r3) ∧ Below W.heap.size W w')
    (hO : ¬ (8000 < a.size ∨ 400 < wl) → (r1 && r2 && r3) = true → ∀ W, Below w.heap.size w W → Calls Tryz.prog 45 #[.string a, .slice wo wl wc] W fun e w' => ∃ bo cap rs, e = .returned (.slice bo rs.length cap) ∧ PO rs bo w' ∧ Below W.heap.size W w')
    (hC : ¬ (8000 < a.size ∨ 400 < wl) → (r1 && r2 && r3) = true → ∀ rs bo cap W, PO rs bo W → Below w.heap.size w W → Calls Tryz.prog 44 #[.agg #[.slice ma ml mc, .slice ca cl cc], .slice bo rs.length cap] W fun e w' => (∃ v cd, e = .returned (.tuple #[v, .int .i64 cd]) ∧ ((cd ≠ 0 ∧ O = ([], cd)) ∨ (cd = 0 ∧ PC v w'))) ∧ Below W.heap.size W w')
    (hR : ¬ (8000 < a.size ∨ 400 < wl) → (r1 && r2 && r3) = true → ∀ v W, PC v W → Below w.heap.size w W → Calls Tryz.prog 46 #[v] W fun e w' => (∃ v cd, e = .returned (.tuple #[v, .int .i64 cd]) ∧ ((cd ≠ 0 ∧ O = ([], cd)) ∨ (cd = 0 ∧ PL v w'))) ∧ Below W.heap.size W w')
    (hK : ∀ v W W', PL v W → Below W.heap.size W W' → PL v W')
    (hCr : ∀ W, Below w.heap.size w W → Calls Tryz.prog 47 #[.agg #[.slice ma ml mc, .slice ca cl cc], .string a] W fun e w' => e = .returned (.int .i64 cr) ∧ Below W.heap.size W w')
    (hD : ¬ (8000 < a.size ∨ 400 < wl) → (r1 && r2 && r3) = true → ∀ v W, PL v W → Calls Tryz.prog 20 #[v, .int .i64 cr] W fun e w' => ∃ ao cap, e = .returned (.slice ao O.1.length cap) ∧ O.2 = 0 ∧ MadeG 2 N.cells N.zero W.heap.size ao O.1 w' ∧ Below W.heap.size W w') :
    Calls Tryz.prog 10 #[.agg #[.slice ma ml mc, .slice ca cl cc], .string a, .slice wo wl wc] w fun e w' => BlO w O e w' := by
  have HE2 := hid_intro e2
  have HE1 := hid_intro e1
  have HA := hid_intro hA
  have HN := hid_intro hN
  have HW := hid_intro hW
  have HO := hid_intro hO
  have HC := hid_intro hC
  have HR := hid_intro hR
  have HK := hid_intro hK
  have HCR := hid_intro hCr
  have HD := hid_intro hD
  clear e2 e1 hA hN hW hO hC hR hK hCr hD
  obtain ⟨W0, hW0⟩ : ∃ z, z = (w.alloc (.cells #[.slice ma ml mc, .slice ca cl cc] 36)).alloc (.cells #[.slice none 0 0, .int .i64 0] 31) := ⟨_, rfl⟩
  have HB0 : Hid (Below w.heap.size w W0) := hid_intro (by rw [hW0]; exact ((Below.refl _ _).alloc (Nat.le_refl _) _).alloc (by simp) _)
  have HX0 : Hid (Blk w.heap.size [.slice ma ml mc, .slice ca cl cc] W0) := hid_intro (by rw [hW0]; exact (Blk.new w _ _).below ((Below.refl _ _).alloc (Nat.le_refl _) _))
  have HZ0 : Hid (Z2 (w.heap.size + 1) W0) := hid_intro (by rw [hW0]; have := Z2.new (w.alloc (.cells #[.slice ma ml mc, .slice ca cl cc] 36)) 31; simpa using this)
  have HW0 := hid_intro hW0
  clear hW0
  obtain ⟨B1, hB1⟩ : ∃ z, z = w.heap.size + 1 := ⟨_, rfl⟩
  rw [← hB1] at HZ0
  have HBE := hid_intro hB1
  have hBl : w.heap.size ≤ B1 := by omega
  clear hB1
  generalize hsz : a.size = sz at *
  by_cases qa : 8000 < sz
  · have qa2 : (8000 : Int) < (sz : Int) := by omega
    obtain rfl := HE2.out (.inl qa)
    go_enter Tryz.func10, Tryz.ntmps10
    go_wp2_with fail
    refine bodyPost_ret (v := .agg #[.slice none 0 0, .int .i64 2]) (by simp [results, Tryz.results10, go_sem]) rfl ⟨none, 0, rfl, made_nil _ _ _, ((Below.refl _ _).alloc (Nat.le_refl _) _).alloc (by simp) _⟩
  have qa2 : ¬ (8000 : Int) < (sz : Int) := by omega
  by_cases qb : 400 < wl
  · have qb2 : (400 : Int) < (wl : Int) := by omega
    obtain rfl := HE2.out (.inr qb)
    go_enter Tryz.func10, Tryz.ntmps10
    go_wp2_with fail
    refine bodyPost_ret (v := .agg #[.slice none 0 0, .int .i64 2]) (by simp [results, Tryz.results10, go_sem]) rfl ⟨none, 0, rfl, made_nil _ _ _, ((Below.refl _ _).alloc (Nat.le_refl _) _).alloc (by simp) _⟩
  have qb2 : ¬ (400 : Int) < (wl : Int) := by omega
  have HE := hid_intro (HE1.out (by omega))
  clear HE1 HE2
  go_enter Tryz.func10, Tryz.ntmps10
  go_wp2_with fail
  rw [← HW0.out, ← HBE.out]
  clear HW0
  refine (HA.out _ HB0.out).mono ?_
  rintro e w1 ⟨rfl, hb1⟩
  replace HB0 := hid_intro (HB0.out.trans (hb1.mono HB0.out.size))
  replace HX0 := hid_intro (HX0.out.below hb1)
  replace HZ0 := hid_intro (HZ0.out.below hb1)
  clear hb1
  cases r1
  · obtain rfl := HE.out rfl
    obtain ⟨zl, z0, z1, f0, f1⟩ := HZ0.out
    go_wp2_with fail
    refine bodyPost_ret (v := .agg #[.slice none 0 0, .int .i64 1]) (by simp [results, Tryz.results10, go_sem, z0, z1]) rfl ⟨none, 0, rfl, made_nil _ _ _, below2 HB0.out hBl _ _⟩
  go_wp2_with fail
  refine (HN.out _).mono ?_
  rintro e w2 ⟨rfl, hb2⟩
  replace HB0 := hid_intro (HB0.out.trans (hb2.mono HB0.out.size))
  replace HX0 := hid_intro (HX0.out.below hb2)
  replace HZ0 := hid_intro (HZ0.out.below hb2)
  clear hb2
  cases r2
  · obtain rfl := HE.out rfl
    obtain ⟨zl, z0, z1, f0, f1⟩ := HZ0.out
    go_wp2_with fail
    refine bodyPost_ret (v := .agg #[.slice none 0 0, .int .i64 1]) (by simp [results, Tryz.results10, go_sem, z0, z1]) rfl ⟨none, 0, rfl, made_nil _ _ _, below2 HB0.out hBl _ _⟩
  go_wp2_with fail
  refine (HW.out _ HB0.out).mono ?_
  rintro e w3 ⟨rfl, hb3⟩
  replace HB0 := hid_intro (HB0.out.trans (hb3.mono HB0.out.size))
  replace HX0 := hid_intro (HX0.out.below hb3)
  replace HZ0 := hid_intro (HZ0.out.below hb3)
  clear hb3
  cases r3
  · obtain rfl := HE.out rfl
    obtain ⟨zl, z0, z1, f0, f1⟩ := HZ0.out
    go_wp2_with fail
    refine bodyPost_ret (v := .agg #[.slice none 0 0, .int .i64 1]) (by simp [results, Tryz.results10, go_sem, z0, z1]) rfl ⟨none, 0, rfl, made_nil _ _ _, below2 HB0.out hBl _ _⟩
  replace HO := hid_intro (HO.out (by omega) rfl)
  replace HC := hid_intro (HC.out (by omega) rfl)
  replace HR := hid_intro (HR.out (by omega) rfl)
  replace HD := hid_intro (HD.out (by omega) rfl)
  clear HE
  have HS0 : Hid (BxI w ma ml mc ca cl cc w3) := hid_intro ⟨HB0.out, HX0.out.1, HX0.out.2 0 (by simp), HX0.out.2 1 (by simp)⟩
  have HS1 := hid_intro HS0.out.drew
  have HZ1 := hid_intro (HZ0.out.below ((Below.refl _ _).drew : Below w3.heap.size w3 w3.drew))
  clear HB0 HX0 HZ0
  go_wp2_with fail
  go_region_held3 (fun W => Below w.heap.size w W ∧ w.heap.size < W.heap.size ∧ W.cell? ⟨w.heap.size, 0, none⟩ = some (.slice ma ml mc) ∧ W.cell? ⟨w.heap.size, 1, none⟩ = some (.slice ca cl cc))
    (first | assumption | (exact HS0.out) | (exact HS1.out) | (exact BxI.below (w := w) (by assumption) hb4) | (exact BxI.below (w := w) (by assumption) hb5))
    (first | (go_at_call 45; refine (HO.out _ (by first | exact (by assumption : BxI w ma ml mc ca cl cc _).1 | exact HS1.out.1 | exact HS0.out.1)).mono ?_; rintro e w4 ⟨bo, cap, rs, rfl, hp, hb4⟩; have HP := hid_intro hp; have HZ4 := hid_intro (HZ1.out.below hb4)) | (go_at_call 44; refine (HC.out rs bo cap _ HP.out (by first | exact (by assumption : BxI w ma ml mc ca cl cc _).1 | exact HS1.out.1 | exact HS0.out.1)).mono ?_; rintro e w5 ⟨⟨v, cd, rfl, hq⟩, hb5⟩; have HZ5 := hid_intro (HZ4.out.below hb5); have HQ5 := hid_intro hq))
  rename_i hS5
  have HB0 := hid_intro hS5.1
  have HX0 : Hid (Blk w.heap.size [.slice ma ml mc, .slice ca cl cc] w5) := hid_intro (BxI.blk hS5)
  clear hS5 HS0 HS1 HO HC HP HZ1 HZ4
  have hq := HQ5.out
  clear HQ5 hb4 hb5 hp
  rcases hq with ⟨hcd, rfl⟩ | ⟨rfl, hpc⟩
  · have h1 : (cd == 0) = false := by simp [hcd]
    have h2 : (cd != 0) = true := by simp [hcd]
    obtain ⟨zl, z0, z1, f0, f1⟩ := HZ5.out
    go_wp2_with fail
    refine bodyPost_ret (v := .agg #[.slice none 0 0, .int .i64 cd]) (by simp [results, Tryz.results10, go_sem, z0, z1]) rfl ⟨none, 0, rfl, made_nil _ _ _, below2 HB0.out hBl _ _⟩
  have HPC := hid_intro hpc
  clear hpc
  go_wp2_with fail
  refine (HR.out _ _ HPC.out HB0.out).mono ?_
  rintro e w6 ⟨⟨v2, cd, rfl, hq⟩, hb6⟩
  replace HB0 := hid_intro (HB0.out.trans (hb6.mono HB0.out.size))
  replace HX0 := hid_intro (HX0.out.below hb6)
  have HZ0 := hid_intro (HZ5.out.below hb6)
  clear hb6 HZ5 HPC
  rcases hq with ⟨hcd, rfl⟩ | ⟨rfl, hpl⟩
  · have h1 : (cd == 0) = false := by simp [hcd]
    have h2 : (cd != 0) = true := by simp [hcd]
    obtain ⟨zl, z0, z1, f0, f1⟩ := HZ0.out
    go_wp2_with fail
    refine bodyPost_ret (v := .agg #[.slice none 0 0, .int .i64 cd]) (by simp [results, Tryz.results10, go_sem, z0, z1]) rfl ⟨none, 0, rfl, made_nil _ _ _, below2 HB0.out hBl _ _⟩
  have HPL := hid_intro hpl
  clear hpl
  have x0 := HX0.out.2 0 (by simp)
  have x1 := HX0.out.2 1 (by simp)
  have xL := HX0.out.1
  simp only [List.getElem?_cons_zero, List.getElem?_cons_succ] at x0 x1
  go_wp2_with fail
  refine (HCR.out _ HB0.out).mono ?_
  rintro e w7 ⟨rfl, hb7⟩
  replace HPL := hid_intro (HK.out _ _ _ HPL.out hb7)
  replace HB0 := hid_intro (HB0.out.trans (hb7.mono HB0.out.size))
  replace HX0 := hid_intro (HX0.out.below hb7)
  replace HZ0 := hid_intro (HZ0.out.below hb7)
  clear hb7
  clear x0 x1 xL
  go_wp2_with fail
  refine (HD.out _ _ HPL.out).mono ?_
  rintro e w8 ⟨ao, cap2, rfl, h0, hm, hb8⟩
  have HM := hid_intro (hm.low HB0.out.size)
  have H0 := hid_intro h0
  have HBL : Hid (B1 < w7.heap.size) := hid_intro HZ0.out.1
  have HM7 := hid_intro hm
  replace HB0 := hid_intro (HB0.out.trans (hb8.mono HB0.out.size))
  replace HX0 := hid_intro (HX0.out.below hb8)
  replace HZ0 := hid_intro (HZ0.out.below hb8)
  clear hm h0 hb8
  obtain ⟨zl, z0, z1, f0, f1⟩ := HZ0.out
  generalize hn : O.1.length = n1 at *
  go_wp2_with fail
  refine bodyPost_ret (v := .agg #[.slice ao n1 cap2, .int .i64 0]) (by simp [results, Tryz.results10, go_sem, z0, z1]) rfl ⟨ao, cap2, by rw [H0.out, hn], ?_, below2 HB0.out hBl _ _⟩
  exact made_two HM7.out HM.out HBL.out
end BilR
end Go.Proofs.YtcilbmhkhllmjaaGreatDoor
namespace Go.Proofs.YtcilbmhkhllmjaaGreatDoor
open Go.ChangeShapes Go.WideShapes Go.ChangeAt Go.RowKit
set_option linter.unusedVariables false
namespace BilR
open LtR WinR LinR
open RowG (Rws cellsAll own_below getD_mem MadeG made_nil own_made)
open CatR (Me Ca mFd MsRight MRight IsCa caB crF crO)
def ownP (a : ByteArray) (ps : List WP) : List WP := ps.filter (ownF a)
theorem own_map (a : ByteArray) : ∀ ps : List WP, (ownP a ps).map WP.d = (ps.map WP.d).filter (ownW a)
  | [] => rfl
  | p :: ps => by
    have ih := own_map a ps
    unfold ownP at ih ⊢
    rw [List.filter_cons, List.map_cons, List.filter_cons]
    have e : ownF a p = ownW a p.d := rfl
    rw [e]
    split
    · rw [List.map_cons, ih]
    · exact ih
theorem wsB_all {ws : List Wd} (h : wsB ws = true) : ∀ x ∈ ws, wB x = true := by
  unfold wsB at h
  rw [Bool.and_eq_true, List.all_eq_true] at h
  exact h.2
theorem ratC_zero {ms : List Me} : ∀ {l : List Wd}, ratC ms l = 0 → ∀ x ∈ l, rC ms x = 0
  | y :: l, h, x, hx => by
    unfold ratC at h
    by_cases q : rC ms y = 0
    · rw [if_pos q] at h
      rcases List.mem_cons.1 hx with rfl | h2
      · exact q
      · exact ratC_zero h x h2
    · rw [if_neg q] at h; exact absurd h q
/-- The rows that the program has picked and sorted, over a world. -/
def PoO (a : ByteArray) (ps : List WP) (rs : List WP) (bo : Option Addr) (W : World) : Prop := rs.Perm (ownP a ps) ∧ rs.Pairwise (fun x y => lt y.d.m x.d.m = false) ∧ Rws 8 WP.cells WP.zero bo rs W ∧ ∀ p ∈ rs, p.Reads W
def PcO (c : Ca) (a : ByteArray) (ps : List WP) (v : Value) (W : World) : Prop := ∃ rs gs bo cap, v = .slice bo gs.length cap ∧ rs.Perm (ownP a ps) ∧ Ris (fun p : WP => p.d.m) rs ∧ (∀ p ∈ rs, hasM c.ms p.d.m = true) ∧ Rws 3 CG.cells CG.zero bo gs W ∧ GsOk c.ms rs rs.length gs W
def PlO (c : Ca) (a : ByteArray) (O : List N × Int) (v : Value) (W : World) : Prop := ∃ L bo cap, v = .slice bo L.length cap ∧ O = (drawL (crF a c.cs) L, 0) ∧ SRight L ∧ Lis bo L W
theorem srt_of {a : ByteArray} {ps rs : List WP} {ws : List Wd} (he : ps.map WP.d = ws) (hp : rs.Perm (ownP a ps)) (hr : Ris (fun p : WP => p.d.m) rs) : rs.map WP.d = srt Wd.m (ws.filter (ownW a)) := by
  refine srt_eq ?_ ?_
  · exact List.pairwise_map.2 hr
  · rw [← he, ← own_map]
    exact hp.map _
theorem impl_bill (cv : Value) (c : Ca) (a : ByteArray) (wo : Option Addr) (wc : Nat) (ws : List Wd) (w : World) (hwl : ws.length ≤ 1048576) (ha : a.size ≤ 1048576) (hS : c.Small) (hsm : ∀ i, i < ws.length → (ws.getD i Wd.zero).Small)
    (hC : IsCa cv c w) (hL : CatR.Laid w) (hL2 : DateR.Laid w) (hL3 : FixR.Laid w) (hI : Wns wo ws w) :
    Calls Tryz.prog 10 #[cv, .string a, .slice wo ws.length wc] w fun e w' => BlO w (billB c a ws) e w' := by
  obtain ⟨ps, hps, hRw, hRd⟩ := wps_of hI
  have hpl : ps.length = ws.length := by rw [← hps, List.length_map]
  have hpm : ∀ p ∈ ps, p.d ∈ ws := fun p hp => by rw [← hps]; exact List.mem_map.2 ⟨p, hp, rfl⟩
  have hsm' : ∀ x ∈ ws, x.Small := fun x hx => by
    obtain ⟨i, hi, rfl⟩ := List.getElem_of_mem hx
    have := hsm i hi
    rwa [show ws.getD i Wd.zero = ws[i] by simp [List.getD, hi]] at this
  have hO1 : ¬ (8000 < a.size ∨ 400 < ws.length) → (caB c && NameR.nameB a && wsB ws) = true → billB c a ws = billR c a ws := fun h1 h2 => by unfold billB; rw [if_neg h1, if_pos h2]
  have hC' := hC
  obtain ⟨ma, mc, ca, cc, rfl, _⟩ := hC'
  refine ibill_in ma _ mc ca _ cc a wo ws.length wc (billB c a ws) (caB c) (NameR.nameB a) (wsB ws) (crO c a) (PoO a ps) (PcO c a ps) (PlO c a (billB c a ws)) w hwl ?_ ?_ ?_ ?_ ?_ ?_ ?_ ?_ ?_ ?_ ?_
  · exact fun h => by unfold billB; rw [if_pos h]
  · exact fun h1 h2 => by unfold billB; rw [if_neg h1, if_neg (by rw [h2]; exact Bool.false_ne_true)]
  · exact fun W hW => CatR.impl_ca _ c W hS (hC.below hW) (hL.below hW)
  · exact fun W => (NameR.impl_any a W ha).mono (by rintro e w' ⟨h, rfl⟩; exact ⟨h, Below.refl _ _⟩)
  · refine fun W hW => iwins_in wo wc ws W hwl (hI.below hW) (fun k hk ta tc h1 h2 W2 hW2 hT hH => ?_)
    obtain ⟨s1, s2, s3, s4, s5⟩ := hsm k hk
    exact impl_window_right _ ta tc h1 h2 W2 s1 s2 s3 s4 s5 ((hL2.below hW).below hW2) hT hH
  · intro _ _ W hW
    have h := windows_of wo wc ps a W (by omega) (hRw.below hW)
    rw [hpl] at h
    refine h.mono ?_
    rintro e w' ⟨bo, cap, rs, rfl, hp, hs, hr, hb⟩
    exact ⟨bo, cap, rs, rfl, ⟨hp, hs, hr, fun p hp' => ((hRd p (List.mem_filter.1 (hp.mem_iff.1 hp')).1).below hW).below hb⟩, hb⟩
  · intro hq ht rs bo cap W hPO hW
    obtain ⟨hp, hs, hr, hd⟩ := hPO
    have ht' := ht
    simp only [Bool.and_eq_true] at ht'
    obtain ⟨⟨t1, t2⟩, t3⟩ := ht'
    have hin : ∀ p ∈ rs, p.d ∈ ws := fun p hp' => hpm p (List.mem_filter.1 (hp.mem_iff.1 hp')).1
    have hlen : rs.length ≤ 1048576 := by
      have h1 := hp.length_eq
      have h2 : (ownP a ps).length ≤ ps.length := List.length_filter_le ..
      omega
    refine (charges_of _ c bo cap rs W hlen hS (hC.below hW) t1 (hL.below hW) (hL2.below hW) hr hs hd (fun p hp' => wsB_all t3 _ (hin p hp')) (fun p hp' => hsm' _ (hin p hp'))).mono ?_
    rintro e w' ⟨hR, hb⟩
    refine ⟨?_, hb⟩
    have hmp : (rs.map WP.d).Perm (ws.filter (ownW a)) := by rw [← hps, ← own_map]; exact hp.map _
    have hall : (ws.filter (ownW a)).all (fun x => hasM c.ms x.m) = true ↔ ∀ p ∈ rs, hasM c.ms p.d.m = true := by
      rw [List.all_eq_true]
      constructor
      · exact fun h p hp' => h _ (hmp.mem_iff.1 (List.mem_map.2 ⟨p, hp', rfl⟩))
      · intro h x hx
        obtain ⟨p, hp', rfl⟩ := List.mem_map.1 (hmp.mem_iff.2 hx)
        exact h p hp'
    have hnd : nodB ((ws.filter (ownW a)).map Wd.m) = true ↔ (rs.map (fun p : WP => p.d.m)).Nodup := by
      rw [nodB_iff, ← (hmp.map Wd.m).nodup_iff, List.map_map]; rfl
    rcases hR with ⟨v, rfl, p, hp', hn⟩ | ⟨hA, ⟨v, rfl, hn⟩ | ⟨v, gs, rfl, hri, ho, hg⟩⟩
    · refine ⟨v, 6, rfl, .inl ⟨by decide, ?_⟩⟩
      rw [hO1 hq ht]
      unfold billR
      rw [if_pos]
      cases hc : (ws.filter (ownW a)).all (fun x => hasM c.ms x.m)
      · rfl
      · have := hall.1 hc p hp'; rw [hn] at this; cases this
    · refine ⟨v, 10, rfl, .inl ⟨by decide, ?_⟩⟩
      rw [hO1 hq ht]
      unfold billR
      rw [if_neg (by rw [hall.2 hA]; exact fun e => by cases e), if_pos]
      cases hc : nodB ((ws.filter (ownW a)).map Wd.m)
      · rfl
      · exact absurd (hnd.1 hc) hn
    · obtain ⟨ao, cp, rfl, hm⟩ := own_made (z := CG.zero) CG.len ho
      exact ⟨_, 0, rfl, .inr ⟨rfl, rs, gs, ao, cp, rfl, hp, hri, hA, hm.rws, hg⟩⟩
  · intro hq ht v W hPC hW
    obtain ⟨rs, gs, bo, cap, rfl, hp, hri, hA, hr, hg⟩ := hPC
    have ht' := ht
    simp only [Bool.and_eq_true] at ht'
    obtain ⟨⟨t1, t2⟩, t3⟩ := ht'
    have hmR := (CatR.caB_iff.1 t1).1
    have hin : ∀ p ∈ rs, p.d ∈ ws := fun p hp' => hpm p (List.mem_filter.1 (hp.mem_iff.1 hp')).1
    have hS' := srt_of hps hp hri
    obtain ⟨S, hSe⟩ : ∃ S, S = srt Wd.m (ws.filter (ownW a)) := ⟨_, rfl⟩
    rw [← hSe] at hS'
    have hsl : S.length = gs.length := by rw [← hS', List.length_map, hg.1]
    have hmem : ∀ x ∈ S, ∃ p ∈ rs, p.d = x := fun x hx => by rw [← hS'] at hx; simpa using hx
    have hgd : ∀ i, i < gs.length → S.getD i Wd.zero = (rs.getD i WP.zero).d ∧ rs.getD i WP.zero ∈ rs := fun i hi => by
      have hi' : i < rs.length := by rw [← hg.1]; exact hi
      refine ⟨?_, getD_mem rs i hi'⟩
      rw [← hS']; simp [List.getD, hi']
    have hall : (ws.filter (ownW a)).all (fun x => hasM c.ms x.m) = true := by
      rw [List.all_eq_true]
      intro x hx
      have hx' : x ∈ S := by rw [hSe]; exact (srt_perm _).mem_iff.2 hx
      obtain ⟨p, hp', rfl⟩ := hmem x hx'
      exact hA p hp'
    have hRS : Ris Wd.m S := by rw [← hS']; exact List.pairwise_map.2 hri
    have hnd : nodB ((ws.filter (ownW a)).map Wd.m) = true := by
      rw [nodB_iff, ← ((srt_perm (f := Wd.m) (ws.filter (ownW a))).map Wd.m).nodup_iff, ← hSe]
      exact ris_nodup hRS
    have hO2 : billB c a ws = if ratC c.ms S ≠ 0 then ([], ratC c.ms S) else (drawL (crF a c.cs) ((S.map (rN c.ms)).filter nz), 0) := by
      rw [hO1 hq ht]
      unfold billR
      rw [if_neg (by rw [hall]; exact fun e => by cases e), if_neg (by rw [hnd]; exact fun e => by cases e), ← hSe]
    have hlen : gs.length ≤ 1048576 := by
      have h1 := hp.length_eq
      have h2 : (ownP a ps).length ≤ ps.length := List.length_filter_le ..
      have := hg.1
      omega
    have hfi : ∀ x ∈ S, MRight (mFd x.m c.ms) ∧ (mFd x.m c.ms).n = x.m ∧ wB x = true ∧ x.Small := fun x hx => by
      obtain ⟨p, hp', rfl⟩ := hmem x hx
      obtain ⟨f1, f2⟩ := has_found hmR (hA p hp')
      exact ⟨f1, f2, wsB_all t3 _ (hin p hp'), hsm' _ (hin p hp')⟩
    refine (rated_in c.ms S bo cap gs W hlen hsl hr (fun i hi => ?_) (fun i hi W2 hW2 => ?_)).mono ?_
    · obtain ⟨e1, e2⟩ := hgd i hi
      obtain ⟨f1, f2, f3, f4⟩ := hfi (S.getD i Wd.zero) (getD_mem S i (by omega))
      have e3 : (rN c.ms (S.getD i Wd.zero)).i = (S.getD i Wd.zero).m := f2
      rw [e3]
      refine ⟨?_, f4.2.1⟩
      rw [(hg.2 i (by rw [← hg.1]; exact hi)).1, e1]
    · obtain ⟨e1, e2⟩ := hgd i hi
      obtain ⟨f1, f2, f3, f4⟩ := hfi (S.getD i Wd.zero) (getD_mem S i (by omega))
      obtain ⟨g1, g2, g3⟩ := hg.2 i (by rw [← hg.1]; exact hi)
      rw [e1] at f1 f2 f3 f4 ⊢
      rw [g2]
      exact CatR.impl_rate _ _ _ W2 ((hL3.below hW).below hW2) f1 (valV_in f3 _) (g3.below hW2).1
    · rintro e w' ⟨hR, hb⟩
      refine ⟨?_, hb⟩
      rcases hR with ⟨hz, v, rfl⟩ | ⟨hz, v, rfl, ho⟩
      · exact ⟨v, _, rfl, .inl ⟨hz, by rw [hO2, if_pos hz]⟩⟩
      · obtain ⟨ao, cp, rfl, hm⟩ := own_made (cells := N.cells) (k := 2) (z := N.zero) (fun _ => rfl) ho
        refine ⟨_, 0, rfl, .inr ⟨rfl, _, ao, cp, rfl, by rw [hO2, if_neg (by rw [hz]; exact fun h => h rfl)], lines_right hmR hRS (fun x hx => ?_) (fun x hx => (hfi x hx).2.2.1) (fun x hx => ?_), hm.rws⟩⟩
        · obtain ⟨p, hp', rfl⟩ := hmem x hx
          exact hA p hp'
        · exact ratC_zero hz x hx
  · rintro v W W' ⟨L, bo, cap, rfl, h1, h2, h3⟩ hb
    exact ⟨L, bo, cap, rfl, h1, h2, h3.below hb⟩
  · exact fun W hW => CatR.impl_cr _ c a W hS (hC.below hW) (hL.below hW)
  · rintro hq ht v W ⟨L, bo, cap, rfl, h1, h2, h3⟩
    simp only [Bool.and_eq_true] at ht
    obtain ⟨⟨t1, t2⟩, t3⟩ := ht
    have hcr : crO c a = crF a c.cs := by unfold crO; rw [if_pos t1]
    have hd : drawB (crO c a) L = drawL (crF a c.cs) L := by
      unfold drawB
      obtain ⟨q1, q2⟩ := cr_in (CatR.caB_iff.1 t1).2 a
      rw [sB_iff.2 h2, hcr, decide_eq_true (by omega)]; rfl
    refine (impl_drawn bo cap L (crO c a) W (by have := h2.1; omega) (fun e he => ?_) h3).mono ?_
    · obtain ⟨i, hi, rfl⟩ := List.getElem_of_mem he
      have := (h2.2 i hi).2
      rw [show L.getD i N.zero = L[i] by simp [List.getD, hi]] at this
      unfold lOk at this
      simp only [Bool.and_eq_true] at this
      have := (CatR.name_le this.1).2
      omega
    · rintro e w' ⟨ao, cp, rfl, hm, hb⟩
      rw [hd] at hm ⊢
      rw [h1]
      exact ⟨ao, cp, rfl, rfl, hm, hb⟩
end BilR
end Go.Proofs.YtcilbmhkhllmjaaGreatDoor
namespace Go.Proofs.YtcilbmhkhllmjaaGreatDoor
open Go.ChangeShapes Go.WideShapes Go.ChangeAt Go.RowKit
set_option linter.unusedVariables false
namespace NetR
open LinR RowG LtR
section
variable {α : Type} (r : α → α → Bool) (f : α → α → α)
/-- One put in its place. -/
def ins : List α → α → List α
  | [], y => [y]
  | x :: xs, y => if r x y then x :: ins xs y else if r y x then y :: x :: xs else f x y :: xs
end
section
variable {α : Type} {r : α → α → Bool} {f : α → α → α} {z : α}
theorem ins_end : ∀ (xs : List α) (y : α), (∀ j, j < xs.length → r (xs.getD j z) y = true) → ins r f xs y = xs ++ [y]
  | [], y, _ => rfl
  | x :: xs, y, h => by
    have h0 : r x y = true := by simpa using h 0 (by simp)
    rw [ins, if_pos h0, ins_end xs y (fun j hj => by simpa using h (j + 1) (by simpa using hj))]
    rfl
theorem ins_at : ∀ (xs : List α) (y : α) (q : Nat), q < xs.length → (∀ j, j < q → r (xs.getD j z) y = true) → r (xs.getD q z) y = false →
    (r y (xs.getD q z) = true → ins r f xs y = xs.take q ++ y :: xs.drop q) ∧ (r y (xs.getD q z) = false → ins r f xs y = xs.take q ++ f (xs.getD q z) y :: xs.drop (q + 1))
  | [], y, q, hq, _, _ => by simp at hq
  | x :: xs, y, 0, hq, _, h1 => by
    have h2 : r x y = false := by simpa using h1
    constructor
    · intro h3
      have h4 : r y x = true := by simpa using h3
      rw [ins, if_neg (by simp [h2]), if_pos h4]
      rfl
    · intro h3
      have h4 : r y x = false := by simpa using h3
      rw [ins, if_neg (by simp [h2]), if_neg (by simp [h4])]
      simp
  | x :: xs, y, q + 1, hq, h0, h1 => by
    have h2 : r x y = true := by simpa using h0 0 (by omega)
    have ih := ins_at xs y q (by simpa using hq) (fun j hj => by simpa using h0 (j + 1) (by omega)) (by simpa using h1)
    constructor
    · intro h3
      rw [ins, if_pos h2, ih.1 (by simpa using h3)]
      simp
    · intro h3
      rw [ins, if_pos h2, ih.2 (by simpa using h3)]
      simp
theorem ins_len : ∀ (xs : List α) (y : α), (ins r f xs y).length ≤ xs.length + 1
  | [], y => by simp [ins]
  | x :: xs, y => by
    have := ins_len xs y
    rw [ins]
    split
    · simp only [List.length_cons]; omega
    · split <;> simp
theorem ins_all (p : α → Prop) (hf : ∀ x y, p x → p y → p (f x y)) : ∀ (xs : List α) (y : α), (∀ x ∈ xs, p x) → p y → ∀ x ∈ ins r f xs y, p x
  | [], y, _, hy, x, hx => by simp [ins] at hx; rw [hx]; exact hy
  | a :: xs, y, h, hy, x, hx => by
    have h1 := h a (by simp)
    have h2 := ins_all p hf xs y (fun x hx => h x (by simp [hx])) hy
    rw [ins] at hx
    split at hx
    · rcases List.mem_cons.1 hx with rfl | hx
      · exact h1
      · exact h2 x hx
    · split at hx
      · rcases List.mem_cons.1 hx with rfl | hx
        · exact hy
        · exact h x hx
      · rcases List.mem_cons.1 hx with rfl | hx
        · exact hf _ _ h1 hy
        · exact h x (by simp [hx])
end
def nlt (x y : N) : Bool := lt x.i y.i
def addN (x y : N) : N := ⟨x.i, x.n + y.n⟩
/-- One line more. -/
def put (L : List N) (x : N) : List N := ins nlt addN L x
/-- They rise by their Meters. -/
def Rise (L : List N) : Prop := L.Pairwise (fun x y => lt x.i y.i = true)
/-- A line so many times. -/
def sg (s : Int) (x : N) : N := ⟨x.i, s * x.n⟩
/-- Lines so many times added to others. -/
def all (L b : List N) (s : Int) : List N := b.foldl (fun l x => put l (sg s x)) L
theorem all_more (L b : List N) (s : Int) (k : Nat) (h : k < b.length) : all L (b.take (k + 1)) s = put (all L (b.take k) s) (sg s (b.getD k N.zero)) := by
  unfold all
  rw [take_more (z := N.zero) b k h, List.foldl_append]
  rfl
theorem neq_of {x y : N} (h1 : nlt x y = false) (h2 : nlt y x = false) : x.i = y.i := lt_total h1 h2
/-- The number of a Meter. -/
def val : List N → ByteArray → Int
  | [], _ => 0
  | y :: l, n => if y.i = n then y.n else val l n
theorem val_none : ∀ {L : List N} {n : ByteArray}, (∀ y ∈ L, y.i ≠ n) → val L n = 0
  | [], _, _ => rfl
  | y :: l, n, h => by
    rw [val, if_neg (h y (by simp))]
    exact val_none (fun y hy => h y (by simp [hy]))
theorem val_mem : ∀ {L : List N}, Rise L → ∀ y ∈ L, val L y.i = y.n
  | [], _, y, h => by cases h
  | x :: l, hr, y, h => by
    rw [val]
    rcases List.mem_cons.1 h with rfl | h
    · rw [if_pos rfl]
    · have h1 := (List.pairwise_cons.1 hr).1 y h
      have h2 : x.i ≠ y.i := fun e => by rw [e, lt_irrefl] at h1; cases h1
      rw [if_neg h2]
      exact val_mem (List.pairwise_cons.1 hr).2 y h
theorem mem_put : ∀ {L : List N} {x : N} {n : ByteArray}, (∃ y ∈ put L x, y.i = n) ↔ (n = x.i ∨ ∃ y ∈ L, y.i = n)
  | [], x, n => by simp [put, ins]; exact eq_comm
  | a :: l, x, n => by
    have ih := mem_put (L := l) (x := x) (n := n)
    unfold put at *
    rw [ins]
    split
    · simp only [List.mem_cons, exists_eq_or_imp, ih]
      constructor
      · rintro (h | h | h)
        · exact .inr (.inl h)
        · exact .inl h
        · exact .inr (.inr h)
      · rintro (h | h | h)
        · exact .inr (.inl h)
        · exact .inl h
        · exact .inr (.inr h)
    · rename_i h1
      split
      · simp only [List.mem_cons, exists_eq_or_imp]
        constructor
        · rintro (h | h | h)
          · exact .inl h.symm
          · exact .inr (.inl h)
          · exact .inr (.inr h)
        · rintro (h | h | h)
          · exact .inl h.symm
          · exact .inr (.inl h)
          · exact .inr (.inr h)
      · rename_i h2
        have e := neq_of (by simpa using h1) (by simpa using h2)
        simp only [List.mem_cons, exists_eq_or_imp]
        constructor
        · rintro (h | h)
          · exact .inl (by rw [← e]; exact h.symm)
          · exact .inr (.inr h)
        · rintro (h | h | h)
          · exact .inl (by rw [h]; exact e)
          · exact .inl h
          · exact .inr h
theorem rise_put : ∀ {L : List N} (x : N), Rise L → Rise (put L x)
  | [], x, _ => by simp [put, ins, Rise]
  | a :: l, x, hr => by
    have h0 := List.pairwise_cons.1 hr
    have ih := rise_put x h0.2
    have hm := fun n => mem_put (L := l) (x := x) (n := n)
    unfold put Rise at *
    rw [ins]
    split
    · rename_i h1
      refine List.pairwise_cons.2 ⟨fun y hy => ?_, ih⟩
      rcases (hm y.i).1 ⟨y, hy, rfl⟩ with e | ⟨z, hz, e⟩
      · rw [e]; exact h1
      · rw [← e]; exact h0.1 z hz
    · rename_i h1
      split
      · rename_i h2
        refine List.pairwise_cons.2 ⟨fun y hy => ?_, hr⟩
        rcases List.mem_cons.1 hy with rfl | hy
        · exact h2
        · exact lt_trans h2 (h0.1 y hy)
      · exact List.pairwise_cons.2 ⟨fun y hy => h0.1 y hy, h0.2⟩
theorem val_put : ∀ {L : List N} (x : N), Rise L → ∀ n, val (put L x) n = if n = x.i then val L n + x.n else val L n
  | [], x, _, n => by
    simp only [put, ins, val]
    by_cases h : n = x.i
    · rw [if_pos h, if_pos h.symm]; omega
    · rw [if_neg h, if_neg (fun e => h e.symm)]
  | a :: l, x, hr, n => by
    have h0 := List.pairwise_cons.1 hr
    have ih := val_put x h0.2 n
    unfold put at *
    rw [ins]
    split
    · rename_i h1
      have hne : a.i ≠ x.i := fun e => by unfold nlt at h1; rw [e, lt_irrefl] at h1; cases h1
      simp only [val, ih]
      by_cases ha : a.i = n
      · rw [if_pos ha, if_neg (fun e => hne (ha.trans e)), if_pos ha]
      · rw [if_neg ha, if_neg ha]
    · rename_i h1
      split
      · rename_i h2
        simp only [val]
        by_cases hx : n = x.i
        · subst hx
          have hn : ∀ y ∈ a :: l, y.i ≠ x.i := by
            intro y hy e
            rcases List.mem_cons.1 hy with rfl | hy
            · unfold nlt at h2; rw [e, lt_irrefl] at h2; cases h2
            · have := lt_trans h2 (h0.1 y hy)
              rw [e, lt_irrefl] at this; cases this
          have hv := val_none hn
          simp only [val] at hv
          rw [if_pos rfl, if_pos rfl, hv]; omega
        · rw [if_neg (fun e => hx e.symm), if_neg hx]
      · rename_i h2
        have e := neq_of (by simpa using h1) (by simpa using h2)
        show (if a.i = n then a.n + x.n else val l n) = if n = x.i then (if a.i = n then a.n else val l n) + x.n else (if a.i = n then a.n else val l n)
        by_cases ha : a.i = n
        · rw [if_pos ha, if_pos ha, if_pos (ha.symm.trans e)]
        · rw [if_neg ha, if_neg ha, if_neg (fun h => ha (e.trans h.symm))]
theorem put_len (L : List N) (x : N) : (put L x).length ≤ L.length + 1 := ins_len L x
theorem put_bd {L : List N} {x : N} {B C : Int} (hB : 0 ≤ B) (hL : ∀ y ∈ L, -B ≤ y.n ∧ y.n ≤ B) (hC : 0 ≤ C) (hx : -C ≤ x.n ∧ x.n ≤ C) : ∀ y ∈ put L x, -(B + C) ≤ y.n ∧ y.n ≤ B + C := by
  unfold put
  induction L with
  | nil => intro y hy; simp [ins] at hy; subst hy; omega
  | cons a l ih =>
    have h1 := hL a (by simp)
    have h2 := ih (fun y hy => hL y (by simp [hy]))
    intro y hy
    rw [ins] at hy
    split at hy
    · rcases List.mem_cons.1 hy with rfl | hy
      · omega
      · exact h2 y hy
    · split at hy
      · rcases List.mem_cons.1 hy with rfl | hy
        · omega
        · have := hL y hy; omega
      · rcases List.mem_cons.1 hy with rfl | hy
        · simp only [addN]; omega
        · have := hL y (by simp [hy]); omega
theorem all_len (L b : List N) (s : Int) : (all L b s).length ≤ L.length + b.length := by
  unfold all
  induction b generalizing L with
  | nil => simp
  | cons x b ih =>
    have h1 := ih (put L (sg s x))
    have h2 := put_len L (sg s x)
    simp only [List.foldl_cons, List.length_cons]
    omega
theorem rise_all {L : List N} (b : List N) (s : Int) (h : Rise L) : Rise (all L b s) := by
  unfold all
  induction b generalizing L with
  | nil => exact h
  | cons x b ih => exact ih (rise_put _ h)
/-- What the Meters of a list that was added to are. -/
theorem all_i (p : ByteArray → Prop) {L : List N} (b : List N) (s : Int) (hL : ∀ y ∈ L, p y.i) (hb : ∀ y ∈ b, p y.i) : ∀ y ∈ all L b s, p y.i := by
  unfold all
  induction b generalizing L with
  | nil => exact hL
  | cons x b ih =>
    have h1 : ∀ y ∈ put L (sg s x), p y.i := ins_all (r := nlt) (f := addN) (fun y : N => p y.i) (fun _ _ h _ => h) L (sg s x) hL (hb x (by simp))
    exact ih h1 (fun y hy => hb y (by simp [hy]))
/-- Lines that rise, put one by one, are themselves. -/
theorem all_self : ∀ (b : List N) (L : List N), Rise (L ++ b) → all L b 1 = L ++ b
  | [], L, _ => by simp [all]
  | x :: b, L, h => by
    have e : put L (sg 1 x) = L ++ [x] := by
      have e1 : sg 1 x = x := by simp [sg]
      rw [e1]
      refine ins_end (z := N.zero) L x (fun j hj => ?_)
      have h2 := (List.pairwise_append.1 h).2.2
      exact h2 _ (getD_mem (z := N.zero) L j hj) x (by simp)
    show all (put L (sg 1 x)) b 1 = _
    rw [e, all_self b (L ++ [x]) (by simpa using h)]
    simp
/-- A Meter as a key. -/
def kS (n : ByteArray) : Lit := .string n.data.toList
theorem kS_inj {a b : ByteArray} (h : kS a = kS b) : a = b := by
  unfold kS at h
  simp only [Lit.string.injEq] at h
  exact ByteArray.ext (Array.ext' h)
theorem kS_key (n : ByteArray) : WideAt.IsKeyLit (kS n) := by
  unfold kS
  first | trivial | exact rfl | (simp [WideAt.IsKeyLit])
/-- A map of numbers by Meters, read as lines that rise. -/
structure NetM (D : DataW Value) (L : List N) : Prop where
  is : Maps.IsMap D
  rise : Rise L
  has : ∀ n, Maps.has D (kS n) = true ↔ ∃ y ∈ L, y.i = n
  nat : ∀ y ∈ L, ∀ z, D.atKey (kS y.i) z = .lit (.int .i64 y.n)
theorem netM_nil : NetM (.map []) [] := ⟨Maps.isMap_empty, List.Pairwise.nil, fun n => by
  rw [Maps.has_eq]
  simp, fun y h => by cases h⟩
theorem NetM.look {D : DataW Value} {L : List N} (h : NetM D L) (n : ByteArray) : D.atKey (kS n) (.lit (.int .i64 0)) = .lit (.int .i64 (val L n)) := by
  by_cases e : ∃ y ∈ L, y.i = n
  · obtain ⟨y, hy, rfl⟩ := e
    rw [h.nat y hy, val_mem h.rise y hy]
  · have h1 : Maps.has D (kS n) = false := by
      cases h2 : Maps.has D (kS n)
      · rfl
      · exact absurd ((h.has n).1 h2) e
    rw [Maps.atKey_of_not_has h1, val_none (fun y hy e2 => e ⟨y, hy, e2⟩)]
theorem NetM.put {D : DataW Value} {L : List N} (h : NetM D L) (x : N) : NetM (D.put (kS x.i) (.lit (.int .i64 (val L x.i + x.n)))) (put L x) := by
  refine ⟨h.is.put _ _, rise_put x h.rise, fun n => ?_, fun y hy z => ?_⟩
  · rw [mem_put]
    by_cases e : n = x.i
    · subst e
      rw [Maps.has_put_same h.is (kS_key _)]
      exact ⟨fun _ => .inl rfl, fun _ => rfl⟩
    · rw [Maps.has_put_other (fun q => e (kS_inj q)), h.has n]
      exact ⟨fun q => .inr q, fun q => q.resolve_left e⟩
  · have hv := val_put x h.rise y.i
    rw [val_mem (rise_put x h.rise) y hy] at hv
    by_cases e : y.i = x.i
    · rw [if_pos e] at hv
      rw [e, Maps.atKey_put_same h.is (kS_key _), hv, e]
    · rw [if_neg e] at hv
      rw [Maps.atKey_put_other (fun q => e (kS_inj q))]
      rcases mem_put.1 ⟨y, hy, rfl⟩ with h1 | ⟨q, hq, h1⟩
      · exact absurd h1 e
      · rw [← h1, h.nat q hq, hv, ← h1, val_mem h.rise q hq]
/-- May none of these numbers be beyond? -/
def ovB (L : List N) : Bool := L.all (fun y => nOk y.n)
theorem NetM.key {D : DataW Value} {L : List N} (h : NetM D L) {kl : Lit} (hs : ∃ x, kl = .string x) (hh : Maps.has D kl = true) : ∃ y ∈ L, kS y.i = kl := by
  obtain ⟨x, rfl⟩ := hs
  have e : (Lit.string x) = kS ⟨x.toArray⟩ := by simp [kS]
  rw [e] at hh ⊢
  obtain ⟨y, hy, h1⟩ := (h.has _).1 hh
  exact ⟨y, hy, by rw [h1]⟩
theorem bl_lt {x y : List UInt8} (h : Op.bytesLess x y = true) : x < y := by
  induction x generalizing y with
  | nil =>
    cases y with
    | nil => simp [Op.bytesLess] at h
    | cons b y => exact List.nil_lt_cons _ _
  | cons a x ih =>
    cases y with
    | nil => simp [Op.bytesLess] at h
    | cons b y =>
      rw [Op.bytesLess] at h
      simp only [Bool.or_eq_true, Bool.and_eq_true, decide_eq_true_eq, beq_iff_eq] at h
      rw [List.cons_lt_cons_iff]
      rcases h with h | ⟨h1, h2⟩
      · exact .inl h
      · exact .inr ⟨h1, ih h2⟩
theorem toL (a : ByteArray) : a.toList = a.data.toList := ByteArray.toList_eq a
/-- The keys of such a map, sorted, are the Meters. -/
theorem NetM.sorted {P : Program} {t : TypeId} (hP : P.underlying t = some .string) {R : Value → Option (DataW Value × List MemPlace)} {w : World} {b n : Nat} {D : DataW Value} (hown : w.ownsMap P t R b n D) {L : List N} (h : NetM D L) {ss : List (List UInt8)} (hss : ss.Perm (strKeys D)) :
    ss.mergeSort (fun x y => decide (x ≤ y)) = L.map (fun y => y.i.data.toList) := by
  have hrise : (L.map (fun y => y.i.data.toList)).Pairwise (fun x y => x < y) := by
    rw [List.pairwise_map]
    exact h.rise.imp (fun {x y} hxy => by unfold lt at hxy; rw [toL, toL] at hxy; exact bl_lt hxy)
  have hnd : (L.map (fun y => y.i.data.toList)).Nodup := hrise.imp (fun {x y} hxy e => by subst e; exact List.lt_irrefl _ hxy)
  obtain ⟨es, hD, hp, hk0⟩ := hown.entries (Maps.string_keyed hP)
  obtain ⟨es', hD', hk1⟩ := hown.keysOf
  have hk : ∀ p ∈ es, ∃ x, p.1 = .string x := by
    rw [hD] at hD'
    simp only [DataW.map.injEq] at hD'
    subst hD'
    intro p hp
    obtain ⟨v, hv⟩ := hk1 p hp
    obtain ⟨x, _, hx, _⟩ := Maps.keyOf_str hP hv
    exact ⟨x, hx⟩
  have hperm : (L.map (fun y => y.i.data.toList)).Perm (strKeys D) := by
    rw [hD]
    refine perm_strKeys hp hk hnd (fun x => ?_)
    rw [← hD]
    have e : (Lit.string x) = kS ⟨x.toArray⟩ := by simp [kS]
    rw [e, h.has, List.mem_map]
    constructor
    · rintro ⟨y, hy, rfl⟩; exact ⟨y, hy, by simp⟩
    · rintro ⟨y, hy, h1⟩; exact ⟨y, hy, by rw [h1]⟩
  have e1 := mergeSort_of_perm (hss.trans hperm.symm)
  refine e1.trans ?_
  refine List.mergeSort_of_pairwise ?_
  exact hrise.imp (fun {x y} hxy => by simpa using List.le_of_lt hxy)
end NetR
end Go.Proofs.YtcilbmhkhllmjaaGreatDoor
