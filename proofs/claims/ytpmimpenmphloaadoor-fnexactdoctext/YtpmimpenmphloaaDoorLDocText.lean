/-
  FnExactDocText: for every document the law's call returns true (the program's DocText hands back what the model's does; it writes into no argument), and the argument reads as it did. The condition is the card's: the library's tables start as its text lays them.
-/
import Derived.Test.YtpmimpenmphloaaDoorDoIn
import Derived.Test.YtpmimpenmphloaaDoorDoU
import Derived.Test.YtpmimpenmphloaaDoorFmtX
import Derived.Test.YtpmimpenmphloaaDoorTablQ
import Derived.Test.YtpmimpenmphloaaDoorCards
import Derived.SevenTiedAt
import Derived.Carry
import Derived.OpenVars
import Derived.Lib.SmallJoins
namespace Go.Proofs.YtpmimpenmphloaaDoor
open Go.ChangeShapes Go.WideShapes Go.ChangeAt Go.RowKit
open Go.ChangeMaps (open_string shut_string)
set_option linter.unusedVariables false
namespace DocTextL
open DocR LinR RowG
open CatR (Blk Blk.new)
open LayQ (Laid)
def BX (w w4 w6 : World) (a : ByteArray) (mo sq : Int) (la : Option Addr) (ll lc : Nat) (l2 : Option Addr) (c2 : Nat) (W : World) : Prop := Below w6.heap.size w6 W ∧ w.heap.size < W.heap.size ∧ w4.heap.size < W.heap.size ∧ W.cell? ⟨w.heap.size, 0, none⟩ = some (.string a) ∧ W.cell? ⟨w.heap.size, 1, none⟩ = some (.int .i64 mo) ∧ W.cell? ⟨w.heap.size, 2, none⟩ = some (.int .i64 sq) ∧ W.cell? ⟨w.heap.size, 3, none⟩ = some (.slice la ll lc) ∧ W.cell? ⟨w4.heap.size, 0, none⟩ = some (.string a) ∧ W.cell? ⟨w4.heap.size, 1, none⟩ = some (.int .i64 mo) ∧ W.cell? ⟨w4.heap.size, 2, none⟩ = some (.int .i64 sq) ∧ W.cell? ⟨w4.heap.size, 3, none⟩ = some (.slice l2 ll c2)
theorem BX.below {w w4 w6 : World} {a : ByteArray} {mo sq : Int} {la : Option Addr} {ll lc : Nat} {l2 : Option Addr} {c2 : Nat} {W W' : World} (h : BX w w4 w6 a mo sq la ll lc l2 c2 W) (hb : Below W.heap.size W W') : BX w w4 w6 a mo sq la ll lc l2 c2 W' := by
  obtain ⟨h0, l1, l2, p0, p1, p2, p3, q0, q1, q2, q3⟩ := h
  have f := fun o => hb.cell (p := ⟨w.heap.size, o, none⟩) l1
  have g := fun o => hb.cell (p := ⟨w4.heap.size, o, none⟩) l2
  have := hb.size
  exact ⟨h0.trans (hb.mono h0.size), by omega, by omega, (f _).trans p0, (f _).trans p1, (f _).trans p2, (f _).trans p3, (g _).trans q0, (g _).trans q1, (g _).trans q2, (g _).trans q3⟩
set_option maxRecDepth 100000 in
set_option maxHeartbeats 8000000 in
theorem law_in (M : Value → World → Prop) (a : ByteArray) (mo sq : Int) (la : Option Addr) (ll lc : Nat) (left : Int) (r : ByteArray) (w : World) (hleft : ¬ left < 0) (hL : Laid w)
    (hK : ∀ v W W', M v W → Below W.heap.size W W' → M v W') (hI : M (.agg #[.string a, .int .i64 mo, .int .i64 sq, .slice la ll lc]) w)
    (hZ : ∀ W, Below w.heap.size w W → Calls Tryd.prog 4 #[.agg #[.string a, .int .i64 mo, .int .i64 sq, .slice la ll lc], .int .i64 1048576] W fun e w' => e = .returned (.int .i64 left) ∧ Below W.heap.size W w')
    (hT : ∀ W, Below w.heap.size w W → Calls Tryd.prog 6 #[.agg #[.string a, .int .i64 mo, .int .i64 sq, .slice la ll lc]] W fun e w' => ∃ l' c', e = .returned (.agg #[.string a, .int .i64 mo, .int .i64 sq, .slice l' ll c']) ∧ M (.agg #[.string a, .int .i64 mo, .int .i64 sq, .slice l' ll c']) w' ∧ Below W.heap.size W w')
    (hS : ∀ v W, Laid W → M v W → Calls Tryd.prog 5 #[v] W fun e w' => e = .returned (.string r) ∧ Below W.heap.size W w')
    (hJ : ∀ v W, Laid W → M v W → Calls Tryd.prog 7 #[v] W fun e w' => e = .returned (.string r) ∧ Below W.heap.size W w')
    (hE : ∀ v v' W, M v W → M v' W → Calls Tryd.prog 8 #[v, v'] W fun e w' => e = .returned (.bool true) ∧ Below W.heap.size W w') :
    Calls Tryd.prog 3 #[.agg #[.string a, .int .i64 mo, .int .i64 sq, .slice la ll lc]] w fun e w' => e = .returned (.bool true) ∧ Below w.heap.size w w' := by
  have HL := hid_intro hL
  clear hL
  have HK := hid_intro hK
  have HI := hid_intro hI
  have HZ := hid_intro hZ
  have HT := hid_intro hT
  have HS := hid_intro hS
  have HJ := hid_intro hJ
  have HE := hid_intro hE
  clear hK hI hZ hT hS hJ hE
  have HB0 : Hid (Below w.heap.size w (w.alloc (.cells #[.string a, .int .i64 mo, .int .i64 sq, .slice la ll lc] 24))) := hid_intro ((Below.refl _ _).alloc (Nat.le_refl _) _)
  have HX0 := hid_intro (Blk.new w [.string a, .int .i64 mo, .int .i64 sq, .slice la ll lc] 24)
  go_enter Tryd.func3, Tryd.ntmps3
  go_wp2_with fail
  refine (HZ.out _ HB0.out).mono ?_
  rintro e w1 ⟨rfl, hb1⟩
  have HB1 := hid_intro (HB0.out.trans (hb1.mono HB0.out.size))
  have HX1 := hid_intro (HX0.out.below hb1)
  clear hb1 HB0 HX0
  obtain ⟨xl, xc⟩ := HX1.out
  have p0 : w1.cell? ⟨w.heap.size, 0, none⟩ = some (.string a) := xc 0 (by simp)
  have p1 : w1.cell? ⟨w.heap.size, 1, none⟩ = some (.int .i64 mo) := xc 1 (by simp)
  have p2 : w1.cell? ⟨w.heap.size, 2, none⟩ = some (.int .i64 sq) := xc 2 (by simp)
  have p3 : w1.cell? ⟨w.heap.size, 3, none⟩ = some (.slice la ll lc) := xc 3 (by simp)
  clear xc
  go_wp2_with fail
  refine (HT.out _ HB1.out).mono ?_
  rintro e w2 ⟨l1, c1, rfl, hM2, hb2⟩
  have HB2 := hid_intro (HB1.out.trans (hb2.mono HB1.out.size))
  have HX2 := hid_intro (HX1.out.below hb2)
  have HM2 := hid_intro hM2
  clear hb2 hM2 HX1 HB1 p0 p1 p2 p3 xl
  obtain ⟨xl, xc⟩ := HX2.out
  have p0 : w2.cell? ⟨w.heap.size, 0, none⟩ = some (.string a) := xc 0 (by simp)
  have p1 : w2.cell? ⟨w.heap.size, 1, none⟩ = some (.int .i64 mo) := xc 1 (by simp)
  have p2 : w2.cell? ⟨w.heap.size, 2, none⟩ = some (.int .i64 sq) := xc 2 (by simp)
  have p3 : w2.cell? ⟨w.heap.size, 3, none⟩ = some (.slice la ll lc) := xc 3 (by simp)
  clear xc
  go_wp2_with fail
  refine (HS.out _ _ (HL.out.below HB2.out) HM2.out).mono ?_
  rintro e w3 ⟨rfl, hb3⟩
  have HB3 := hid_intro (HB2.out.trans (hb3.mono HB2.out.size))
  have HX3 := hid_intro (HX2.out.below hb3)
  clear hb3 HX2 HB2 HM2 p0 p1 p2 p3 xl
  obtain ⟨xl, xc⟩ := HX3.out
  have p0 : w3.cell? ⟨w.heap.size, 0, none⟩ = some (.string a) := xc 0 (by simp)
  have p1 : w3.cell? ⟨w.heap.size, 1, none⟩ = some (.int .i64 mo) := xc 1 (by simp)
  have p2 : w3.cell? ⟨w.heap.size, 2, none⟩ = some (.int .i64 sq) := xc 2 (by simp)
  have p3 : w3.cell? ⟨w.heap.size, 3, none⟩ = some (.slice la ll lc) := xc 3 (by simp)
  clear xc
  go_wp2_with fail
  refine (HT.out _ HB3.out).mono ?_
  rintro e w4 ⟨l2, c2, rfl, hM4, hb4⟩
  have HB4 := hid_intro (HB3.out.trans (hb4.mono HB3.out.size))
  have HX4 := hid_intro (HX3.out.below hb4)
  have HM4 := hid_intro hM4
  clear hb4 hM4 HX3 HB3 p0 p1 p2 p3 xl
  have HA4 : Hid (Below w4.heap.size w4 (w4.alloc (.cells #[.string a, .int .i64 mo, .int .i64 sq, .slice l2 ll c2] 29))) := hid_intro ((Below.refl _ _).alloc (Nat.le_refl _) _)
  have HB5 := hid_intro (HB4.out.trans (HA4.out.mono HB4.out.size))
  have HX5 := hid_intro (HX4.out.below HA4.out)
  have HM5 := hid_intro (HK.out _ _ _ HM4.out HA4.out)
  have HY5 := hid_intro (Blk.new w4 [.string a, .int .i64 mo, .int .i64 sq, .slice l2 ll c2] 29)
  clear HX4 HB4 HM4 HA4
  go_wp2_with fail
  refine (HJ.out _ _ (HL.out.below HB5.out) HM5.out).mono ?_
  rintro e w6 ⟨rfl, hb6⟩
  have HB6 := hid_intro (HB5.out.trans (hb6.mono HB5.out.size))
  have HX6 := hid_intro (HX5.out.below hb6)
  have HY6 := hid_intro (HY5.out.below hb6)
  have HM6 := hid_intro (HK.out _ _ _ HM5.out hb6)
  clear hb6 HX5 HB5 HM5 HY5
  have HS0 : Hid (BX w w4 w6 a mo sq la ll lc l2 c2 w6.drew) := hid_intro (BX.below (by
    obtain ⟨xl, xc⟩ := HX6.out
    obtain ⟨yl, yc⟩ := HY6.out
    exact ⟨Below.refl _ _, xl, yl, xc 0 (by simp), xc 1 (by simp), xc 2 (by simp), xc 3 (by simp), yc 0 (by simp), yc 1 (by simp), yc 2 (by simp), yc 3 (by simp)⟩) (Below.refl _ _).drew)
  clear HX6 HY6
  first | skip
  all_goals (
    go_wp2_with fail
    refine wp_region_held_drew (S := (fun W => Below w6.heap.size w6 W ∧ w.heap.size < W.heap.size ∧ w4.heap.size < W.heap.size ∧ W.cell? ⟨w.heap.size, 0, none⟩ = some (.string a) ∧ W.cell? ⟨w.heap.size, 1, none⟩ = some (.int .i64 mo) ∧ W.cell? ⟨w.heap.size, 2, none⟩ = some (.int .i64 sq) ∧ W.cell? ⟨w.heap.size, 3, none⟩ = some (.slice la ll lc) ∧ W.cell? ⟨w4.heap.size, 0, none⟩ = some (.string a) ∧ W.cell? ⟨w4.heap.size, 1, none⟩ = some (.int .i64 mo) ∧ W.cell? ⟨w4.heap.size, 2, none⟩ = some (.int .i64 sq) ∧ W.cell? ⟨w4.heap.size, 3, none⟩ = some (.slice l2 ll c2))) (by kernel_rfl) HS0.out (fun hHeld => ?_)
    refine wpAnyH_take (i := 0) (oi := { dst := some 22, op := Op.load 29 (Operand.tmp 5), type := 29, pos := "exact.go:3221", after := #[], guard := none }) (v := ?_) rfl (by kernel_rfl) (by kernel_rfl) (by kernel_rfl) (fun _ _ _ h => h) (Or.inl ⟨by rfl, ?_⟩) (by assumption) ?_
    rotate_left
    · (intro w hSw; (try dsimp only at hSw); go_simp) <;> with_reducible rfl
    try simp only [Act.put, List.setIfInBounds_toArray, List.set_cons_zero, List.set_cons_succ]
    refine wpAnyH_take (i := 1) (oi := { dst := some 23, op := Op.load 24 (Operand.tmp 1), type := 24, pos := "exact.go:3221", after := #[], guard := none }) (v := ?_) rfl (by kernel_rfl) (by kernel_rfl) (by kernel_rfl) (fun _ _ _ h => h) (Or.inl ⟨by rfl, ?_⟩) (by assumption) ?_
    rotate_left
    · (intro w hSw; (try dsimp only at hSw); go_simp) <;> with_reducible rfl
    try simp only [Act.put, List.setIfInBounds_toArray, List.set_cons_zero, List.set_cons_succ]
    refine wpAnyH_ready (rs := [2]) (by kernel_rfl) (by simp) ?_
    refine AllReadyH.cons (o := { dst := some 24, op := Op.call { callee := Callee.value (Operand.func 6), args := #[Operand.tmp 23], argTypes := #[24] }, type := 29, pos := "exact.go:3221", after := #[{ on := 1, ground := Ground.data }], guard := none }) rfl (fun K hK => ?_) AllReadyH.nil
    go_simp
    go_at_call 6
    refine (HT.out _ (HB6.out.trans (HS0.out.1.mono HB6.out.size))).mono ?_
    rintro e q1 ⟨l3, c3, rfl, hM7, hq1⟩
    try go_wp2_with fail
    have hk1 := BX.below (w := w) (w4 := w4) (w6 := w6) (a := a) (mo := mo) (sq := sq) (la := la) (ll := ll) (lc := lc) (l2 := l2) (c2 := c2) HS0.out hq1
    refine hK.out _ _ hk1 (fun _ => ?_)
    clear hK K
    try simp only [Act.put, List.setIfInBounds_toArray, List.set_cons_zero, List.set_cons_succ]
    have hM8 := HK.out _ _ _ (HK.out _ _ _ HM6.out (Below.refl _ _).drew) hq1
    refine wpAnyH_ready (rs := [3]) (by kernel_rfl) (by simp) ?_
    refine AllReadyH.cons (o := { dst := some 25, op := Op.call { callee := Callee.value (Operand.func 8), args := #[Operand.tmp 22, Operand.tmp 24], argTypes := #[29, 29] }, type := 4, pos := "exact.go:3221", after := #[{ on := 0, ground := Ground.data }, { on := 2, ground := Ground.data }, { on := 2, ground := Ground.chain }], guard := none }) rfl (fun K hK => ?_) AllReadyH.nil
    go_simp
    go_at_call 8
    refine (HE.out _ _ _ hM8 hM7).mono ?_
    rintro e q2 ⟨rfl, hq2⟩
    try go_wp2_with fail
    have hk2 := BX.below (w := w) (w4 := w4) (w6 := w6) (a := a) (mo := mo) (sq := sq) (la := la) (ll := ll) (lc := lc) (l2 := l2) (c2 := c2) hk1 hq2
    refine hK.out _ _ hk2 (fun _ => ?_)
    clear hK K
    try simp only [Act.put, List.setIfInBounds_toArray, List.set_cons_zero, List.set_cons_succ]
    refine wpAnyH_take (i := 4) (oi := { dst := some 26, op := Op.unOp UnOp.not 4 (Operand.tmp 25), type := 4, pos := "exact.go:3221", after := #[{ on := 3, ground := Ground.data }], guard := none }) (v := ?_) rfl (by kernel_rfl) (by kernel_rfl) (by kernel_rfl) (fun _ _ _ h => h) (Or.inl ⟨by rfl, ?_⟩) (by assumption) ?_
    rotate_left
    · (intro w hSw; (try dsimp only at hSw); go_simp) <;> with_reducible rfl
    try simp only [Act.put, List.setIfInBounds_toArray, List.set_cons_zero, List.set_cons_succ]
    refine wpAnyH_done (by kernel_rfl) ?_ _
    have HBF := hid_intro (HB6.out.trans (hk2.1.mono HB6.out.size))
    clear hk2 hk1 hM7 hM8
    go_wp2_with fail
    go_ret
    exact ⟨rfl, HBF.out⟩)
theorem big (a : ByteArray) (mo sq : Int) (la : Option Addr) (ll lc : Nat) (left : Int) (w : World) (hleft : left < 0)
    (hZ : ∀ W, Below w.heap.size w W → Calls Tryd.prog 4 #[.agg #[.string a, .int .i64 mo, .int .i64 sq, .slice la ll lc], .int .i64 1048576] W fun e w' => e = .returned (.int .i64 left) ∧ Below W.heap.size W w') :
    Calls Tryd.prog 3 #[.agg #[.string a, .int .i64 mo, .int .i64 sq, .slice la ll lc]] w fun e w' => e = .returned (.bool true) ∧ Below w.heap.size w w' := by
  have HZ := hid_intro hZ
  clear hZ
  have HB0 : Hid (Below w.heap.size w (w.alloc (.cells #[.string a, .int .i64 mo, .int .i64 sq, .slice la ll lc] 24))) := hid_intro ((Below.refl _ _).alloc (Nat.le_refl _) _)
  go_enter Tryd.func3, Tryd.ntmps3
  go_wp2_with fail
  refine (HZ.out _ HB0.out).mono ?_
  rintro e w1 ⟨rfl, hb1⟩
  have HB1 := hid_intro (HB0.out.trans (hb1.mono HB0.out.size))
  clear hb1
  go_wp2_with fail
  go_ret
  exact ⟨rfl, HB1.out⟩
theorem walk (x : D) (la : Option Addr) (lc : Nat) (w : World) (hin : x.In) (hI : Lis la x.ls w) (hL : Laid w) :
    Calls Tryd.prog 3 #[.agg (dcells x la lc)] w fun e w' => e = .returned (.bool true) ∧ Below w.heap.size w w' := by
  have hz := fun W (hW : Below w.heap.size w W) => szD_any x la lc 1048576 W (by omega) (by omega) hin (hI.below hW)
  by_cases hs : dszR 1048576 x < 0
  · exact big x.a x.mo x.sq la x.ls.length lc _ w hs hz
  · obtain ⟨hS, _⟩ := dsz_small (by omega) hs
    obtain ⟨R0, hIm, hSp⟩ := text_both Dec2.fmtOk x hS
    refine law_in (fun v W => IsD v x W) x.a x.mo x.sq la x.ls.length lc _ R0 w hs hL (fun v W W' h hb => h.below hb) ⟨la, lc, rfl, hI⟩ hz (fun W hW => ?_) (fun v W hL h => ?_) (fun v W hL h => ?_) (fun v v' W h h' => eqD_any v v' x W hS.2.1 h h')
    · refine (toD_any _ x W hS.2.1 ⟨la, lc, rfl, hI.below hW⟩).mono ?_
      rintro e w' ⟨v', rfl, hM, hb⟩
      have hi := hM.is
      obtain ⟨l', c', rfl, _⟩ := hM
      exact ⟨l', c', rfl, hi, hb⟩
    · obtain ⟨la, lc, rfl, hI⟩ := h
      exact hSp la lc W hI
    · obtain ⟨la, lc, rfl, hI⟩ := h
      exact hIm la lc W hI hL
set_option maxRecDepth 100000 in
theorem lifted (os : Os) (started : os.Started) (H : Type) (enc : TypeId × Value → H) :
    ReturnsInHanded {} Tryd.checked os 3 .any (fun w args => (Rows.fnExactDocTextSpec.pre enc Tryd.prog Tryd.f3 [] false w args ∧ laidMetH Tryd.prog LayQ.laid w) ∧ sizedMet enc Tryd.prog Tryd.f3 (OpenSpec.ofChange Rows.fnExactDocTextSpec) false w args)
      (Rows.fnExactDocTextSpec.post enc Tryd.prog Tryd.f3 false true false false) := by
  refine returnsInHanded_of_change_and (C := Tryd.checked) (X := fun w _ => laidMetH Tryd.prog LayQ.laid w) (fun _ _ _ hh h => h.of_heap hh) LayQ.own started (by kernel_rfl) Tryd.func3
    (ChangeSpec.witness_shaped (enc := enc) (C := Tryd.checked) (os := os) (X := fun w _ => laidMetH Tryd.prog LayQ.laid w) false (World.doorLaid Tryd.prog 400 os) #[.agg #[.string ByteArray.empty, .int .i64 0, .int .i64 0, .slice none 0 0]] 8 rfl (World.shaped_of_RefB (by kernel_rfl) (by kernel_rfl)) (by kernel_rfl) (by kernel_rfl) (by kernel_rfl) (LayQ.door_met os _)) ?_
  intro W base args ds gs before hval0 hW _ _ hL _
  have hval : ∀ (j : Nat) t v, Tryd.f3.params[j]? = some t → args[j]? = some v → Value.okWide Tryd.prog W .any base t v := hval0
  have hW' := hW
  obtain ⟨p, q, hA0, hV0, rfl, hfz, hnd⟩ := hW
  have hA : DataW.TrodAll enc Tryd.prog W 0 (fun _ => true) true Tryd.f3.params.toList args.toList ds p := hA0
  have hV : DataW.TrodVars enc Tryd.prog W (fun _ => true) [] gs q := hV0
  rw [Tryd.params3] at hA hval
  obtain ⟨v0, d0, rfl, rfl, h0⟩ := trodAll_one hA
  have k0 := h0
  have lt0 : ∀ x ∈ p, x.block < W.heap.size := fun x hx => hW'.lt x (by simp [hx])
  obtain ⟨cs0, rfl, _⟩ := okWide_struct Tryd.underlying24 (hval 0 24 v0 rfl rfl)
  obtain ⟨fuel0, hf0⟩ := h0
  obtain ⟨x0, la0, lc0, hcs0, hin0, hL0⟩ := DocR.doc_open Tryd.underlying24 (by kernel_rfl) (by kernel_rfl) Tryd.underlying9 Tryd.underlying2 Tryd.underlying2 Tryd.underlying22 Tryd.underlying45 (by kernel_rfl) (by kernel_rfl) Tryd.underlying9 Tryd.underlying2 hf0
  obtain rfl : cs0 = DocR.dcells x0 la0 lc0 := by
    obtain ⟨l⟩ := cs0
    exact Array.ext' (by simpa [Value.cells] using hcs0)
  have hl := LayQ.of_laid hL
  obtain ⟨rfl, rfl⟩ := trodVars_none hV
  refine (walk x0 la0 lc0 W hin0 hL0 hl).mono fun e W' ⟨he, bel⟩ => ?_
  subst he
  exact ⟨_, rfl, _, _, _, _, _, _, hW', trodAll_mk1 (shut_bool Tryd.underlying4 true), trodAll_mk1 (Below.trod LayQ.laidOut (by kernel_rfl) (of_decide_eq_true (by kernel_rfl)) k0 bel lt0), rfl, bel.frame _, fun h => by cases h⟩
theorem row_holds : Rows.FnExactDocTextSaid :=
  OpenClaim.holds_of_wide 3 Tryd.f3 rfl rfl rfl rfl rfl rfl rfl ⟨rfl, rfl, rfl, rfl, rfl⟩ rfl rfl rfl rfl rfl (by kernel_rfl) Tryd.func3 (by kernel_rfl)
    (of_decide_eq_true (by kernel_rfl)) (by unfold Func.isWrapper; rw [if_neg (of_decide_eq_false (by kernel_rfl))]; exact ⟨rfl, rfl⟩)
    (fun os started H enc _ => lifted os started H enc)
theorem card_holds : Rows.FnExactDocTextCardSaid :=
  Claim7.holds_tied_plain_at .later [] [.data, .data, .data] true Rows.fnExactDocTextCard.stood.harness false
    row_holds (fun _ h => by cases h) (by kernel_rfl) (fun _ h => by cases h) fnExactDocText_row_tie rfl ⟨rfl, rfl⟩ (by kernel_rfl) rfl
    (fun f fn hf hfn => by
      obtain rfl : f = 3 := Option.some.inj ((show Tryd.prog.funcNamed "loop.example/g00562/laws.FnExactDocText" = some 3 by kernel_rfl).symm.trans hf) |>.symm
      obtain rfl : fn = Tryd.f3 := (Option.some.inj (Tryd.func3.symm.trans hfn)).symm
      exact ⟨by kernel_rfl, fun j t ht => by
        rw [Tryd.params3] at ht
        have hm : t ∈ [24] := by simpa using Array.mem_of_getElem? ht
        have hall : ([24].all fun u => !Tryd.prog.wantsStandIn u) = true := by kernel_rfl
        exact (show Tryd.prog.wantsStandIn t = false by simpa using List.all_eq_true.1 hall t hm)⟩)
    (by kernel_rfl)
end DocTextL
/-- THE STATEMENT: THE CARD -/
theorem fnExactDocText_holds : Rows.FnExactDocTextCardSaid := DocTextL.card_holds
#print axioms fnExactDocText_holds
end Go.Proofs.YtpmimpenmphloaaDoor
