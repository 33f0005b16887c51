/-
  Drawn dates: some date; drawing writes the source's own block alone. The condition: the bytes are at most 1048576.
-/
import Derived.Test.YtfnkhohommahoaaDoorDraw2
import Derived.Test.YtfnkhohommahoaaDoorMDays
import Derived.Deep.RegionWith
import Derived.Deep.CutRange
import Derived.Deep.DeepCutAuto
import Derived.Lib.BufferAt
namespace Go.Proofs.YtfnkhohommahoaaDoor
open Go.ChangeShapes Go.WideShapes Go.ChangeAt Go.RowKit
set_option linter.unusedVariables false
namespace DrawR
open DateR (date)
theorem gset (w : World) (b o : Nat) (v : Value) : w.grownBy (w.setCell ⟨b, o, none⟩ v) (some b) := by
  refine ⟨rfl, rfl, rfl, by simp, fun k hk hne => ?_⟩
  simp only [World.setCell]
  rw [Array.getElem?_modify, if_neg (fun e => hne (by rw [e]))]
/-- A block of a date, written or not. -/
def DB (B : Nat) (Y M D : Int) (w : World) : Prop := B < w.heap.size ∧ w.cell? ⟨B, 0, none⟩ = some (.int .i64 Y) ∧ w.cell? ⟨B, 1, none⟩ = some (.int .i64 M) ∧ w.cell? ⟨B, 2, none⟩ = some (.int .i64 D) ∧ w.frozen? ⟨B, 0, none⟩ = false ∧ w.frozen? ⟨B, 1, none⟩ = false ∧ w.frozen? ⟨B, 2, none⟩ = false
theorem DB.new (W : World) (T : TypeId) (Y M D : Int) : DB W.heap.size Y M D (W.alloc (.cells #[.int .i64 Y, .int .i64 M, .int .i64 D] T)) :=
  ⟨by simp, by simp [go_sem], by simp [go_sem], by simp [go_sem], by simp [go_sem], by simp [go_sem], by simp [go_sem]⟩
theorem DB.drew {B : Nat} {Y M D : Int} {w : World} (h : DB B Y M D w) : DB B Y M D w.drew := h
theorem DB.grown {B : Nat} {Y M D : Int} {w w' : World} {row : Option Nat} (h : DB B Y M D w) (hg : w.grownBy w' row) (hne : some B ≠ row) : DB B Y M D w' := by
  obtain ⟨hl, c0, c1, c2, f0, f1, f2⟩ := h
  have e := hg.block B hl hne
  have f := fun o => World.frozen?_of_block (a := ⟨B, o, none⟩) e
  exact ⟨by have := hg.size; omega, hg.cell (a := ⟨B, 0, none⟩) c0 hne, hg.cell (a := ⟨B, 1, none⟩) c1 hne, hg.cell (a := ⟨B, 2, none⟩) c2 hne, (f 0).trans f0, (f 1).trans f1, (f 2).trans f2⟩
theorem DB.set0 {B : Nat} {Y M D : Int} {w : World} (h : DB B Y M D w) (x : Int) : DB B x M D (w.setCell ⟨B, 0, none⟩ (.int .i64 x)) := by
  obtain ⟨hl, c0, c1, c2, f0, f1, f2⟩ := h
  exact ⟨by simpa using hl, by simp [go_sem, c0], by simp [go_sem, c1], by simp [go_sem, c2], by simp [go_sem, f0], by simp [go_sem, f1], by simp [go_sem, f2]⟩
theorem DB.set1 {B : Nat} {Y M D : Int} {w : World} (h : DB B Y M D w) (x : Int) : DB B Y x D (w.setCell ⟨B, 1, none⟩ (.int .i64 x)) := by
  obtain ⟨hl, c0, c1, c2, f0, f1, f2⟩ := h
  exact ⟨by simpa using hl, by simp [go_sem, c0], by simp [go_sem, c1], by simp [go_sem, c2], by simp [go_sem, f0], by simp [go_sem, f1], by simp [go_sem, f2]⟩
theorem DB.set2 {B : Nat} {Y M D : Int} {w : World} (h : DB B Y M D w) (x : Int) : DB B Y M x (w.setCell ⟨B, 2, none⟩ (.int .i64 x)) := by
  obtain ⟨hl, c0, c1, c2, f0, f1, f2⟩ := h
  exact ⟨by simpa using hl, by simp [go_sem, c0], by simp [go_sem, c1], by simp [go_sem, c2], by simp [go_sem, f0], by simp [go_sem, f1], by simp [go_sem, f2]⟩
/-- What stands while a date is drawn: the source, the block that is handed back, the date's block. -/
structure DP (ao : Option Addr) (len cap g : Nat) (w : World) (B : Nat) (Y M D : Int) (wx : World) : Prop where
  src : Src ao len cap g wx
  grown : w.grownBy wx (some g)
  gl : g < w.heap.size
  res : DB w.heap.size 0 0 0 wx
  lt : w.heap.size < B
  dat : DB B Y M D wx
theorem grown_set {w wx : World} {g B o : Nat} {v : Value} (h : w.grownBy wx (some g)) (hB : w.heap.size ≤ B) : w.grownBy (wx.setCell ⟨B, o, none⟩ v) (some g) := by
  have hg := gset wx B o v
  refine ⟨hg.os.trans h.os, hg.tape.trans h.tape, hg.output.trans h.output, by have := h.size; have := hg.size; omega, fun k hk hne => ?_⟩
  have hs := h.size
  exact (hg.block k (by omega) (by intro e; cases e; omega)).trans (h.block k hk hne)
section
variable {ao : Option Addr} {len cap g : Nat} {w wx w' : World} {B : Nat} {Y M D : Int}
theorem DP.call (h : DP ao len cap g w B Y M D wx) (hS : Src ao len cap g w') (hg : wx.grownBy w' (some g)) : DP ao len cap g w B Y M D w' :=
  ⟨hS, Lib.grownBy_trans h.grown hg, h.gl, h.res.grown hg (by have := h.gl; intro e; cases e; omega), h.lt, h.dat.grown hg (by have := h.gl; have := h.lt; intro e; cases e; omega)⟩
theorem DP.set0 (h : DP ao len cap g w B Y M D wx) (x : Int) : DP ao len cap g w B x M D (wx.setCell ⟨B, 0, none⟩ (.int .i64 x)) :=
  ⟨h.src.kept (gset wx B 0 _) (fun k e => by cases e; have := h.gl; have := h.lt; omega), grown_set h.grown (by have := h.lt; omega), h.gl, h.res.grown (gset wx B 0 _) (by have := h.lt; intro e; cases e; omega), h.lt, h.dat.set0 x⟩
theorem DP.set1 (h : DP ao len cap g w B Y M D wx) (x : Int) : DP ao len cap g w B Y x D (wx.setCell ⟨B, 1, none⟩ (.int .i64 x)) :=
  ⟨h.src.kept (gset wx B 1 _) (fun k e => by cases e; have := h.gl; have := h.lt; omega), grown_set h.grown (by have := h.lt; omega), h.gl, h.res.grown (gset wx B 1 _) (by have := h.lt; intro e; cases e; omega), h.lt, h.dat.set1 x⟩
theorem DP.set2 (h : DP ao len cap g w B Y M D wx) (x : Int) : DP ao len cap g w B Y M x (wx.setCell ⟨B, 2, none⟩ (.int .i64 x)) :=
  ⟨h.src.kept (gset wx B 2 _) (fun k e => by cases e; have := h.gl; have := h.lt; omega), grown_set h.grown (by have := h.lt; omega), h.gl, h.res.grown (gset wx B 2 _) (by have := h.lt; intro e; cases e; omega), h.lt, h.dat.set2 x⟩
theorem DP.alloc (h : DP ao len cap g w B Y M D wx) (o : Obj) : DP ao len cap g w B Y M D (wx.alloc o) :=
  h.call (h.src.alloc o) (World.grownBy_alloc wx o _)
theorem DP.drew (h : DP ao len cap g w B Y M D wx) : DP ao len cap g w B Y M D wx.drew := ⟨h.src, ⟨h.grown.os, h.grown.tape, h.grown.output, h.grown.size, h.grown.block⟩, h.gl, h.res, h.lt, h.dat⟩
end
theorem DP.done {ao : Option Addr} {len cap g : Nat} {w wx : World} {B : Nat} {Y M D : Int} (h : DP ao len cap g w B Y M D wx) (a b c : Value) : Src ao len cap g (((wx.setCell ⟨w.heap.size, 0, none⟩ a).setCell ⟨w.heap.size, 1, none⟩ b).setCell ⟨w.heap.size, 2, none⟩ c) ∧ w.grownBy (((wx.setCell ⟨w.heap.size, 0, none⟩ a).setCell ⟨w.heap.size, 1, none⟩ b).setCell ⟨w.heap.size, 2, none⟩ c) (some g) := by
  have hl := h.gl
  exact ⟨((h.src.kept (gset _ _ 0 a) (fun k e => by cases e; exact hl)).kept (gset _ _ 1 b) (fun k e => by cases e; exact hl)).kept (gset _ _ 2 c) (fun k e => by cases e; exact hl), grown_set (grown_set (grown_set h.grown (Nat.le_refl _)) (Nat.le_refl _)) (Nat.le_refl _)⟩
def yearEdges : List Int := [1969, 1970, 2000, 2100, 2200, 2201]
theorem yearEdges_at (j : Nat) (h : j < 6) : ∃ x : Int, (yearEdges.map (Value.int .i64))[j]? = some (.int .i64 x) := by
  match j, h with
  | 0, _ => exact ⟨_, rfl⟩
  | 1, _ => exact ⟨_, rfl⟩
  | 2, _ => exact ⟨_, rfl⟩
  | 3, _ => exact ⟨_, rfl⟩
  | 4, _ => exact ⟨_, rfl⟩
  | 5, _ => exact ⟨_, rfl⟩
theorem yearEdges_cell (w : World) (T : TypeId) (j : Nat) (x : Int) (hx : (yearEdges.map (Value.int .i64))[j]? = some (.int .i64 x)) : (w.alloc (.cells (yearEdges.map (Value.int .i64)).toArray T)).cell? ⟨w.heap.size, j, none⟩ = some (.int .i64 x) := by
  rw [World.cell?_alloc_at _ _ _ _ rfl]
  simpa using hx
/-- What a drawn date is. -/
def DateOut (ao : Option Addr) (len cap g : Nat) (w : World) (e : Ending) (w' : World) : Prop := (∃ Y M D : Int, e = .returned (date Y M D)) ∧ Src ao len cap g w' ∧ w.grownBy w' (some g)
set_option maxRecDepth 100000 in
set_option maxHeartbeats 4000000 in
theorem date_any (ao : Option Addr) (len cap g : Nat) (w : World) (hS : Src ao len cap g w) :
    Calls Tryd.prog 41 #[.pointer (some ⟨g, 0, none⟩)] w fun e w' => DateOut ao len cap g w e w' := by
  have HS := hid_intro hS
  have hgl := hS.lt
  clear hS
  go_enter Tryd.func41, Tryd.ntmps41
  go_wp2_with fail
  have HR0 := hid_intro (DB.new w 24 0 0 0)
  have HG0 := hid_intro (World.grownBy_alloc w (.cells #[.int .i64 0, .int .i64 0, .int .i64 0] 24) (some g))
  refine (n_any ao len cap g 231 _ (by omega) (HS.out.alloc _)).mono ?_
  rintro e w1 ⟨x, rfl, x0, _, x2, hS1, hg1⟩
  have x3 : x < 231 := x2 (by omega)
  have HS1 := hid_intro hS1
  have HG1 := hid_intro (Lib.grownBy_trans HG0.out hg1)
  have HR1 := hid_intro (HR0.out.grown hg1 (by intro e; cases e; omega))
  clear hS1 hg1 x2 HR0 HG0
  go_wp2_with fail
  refine (n_any ao len cap g 12 _ (by omega) HS1.out).mono ?_
  rintro e w2 ⟨y, rfl, y0, _, y2, hS2, hg2⟩
  have y3 : y < 12 := y2 (by omega)
  have HS2 := hid_intro hS2
  have HG2 := hid_intro (Lib.grownBy_trans HG1.out hg2)
  have HR2 := hid_intro (HR1.out.grown hg2 (by intro e; cases e; omega))
  clear hS2 hg2 y2 HS1 HG1 HR1
  go_wp2_with fail
  refine (n_any ao len cap g 28 _ (by omega) HS2.out).mono ?_
  rintro e w3 ⟨z, rfl, z0, _, z2, hS3, hg3⟩
  have z3 : z < 28 := z2 (by omega)
  have HS3 := hid_intro hS3
  have HG3 := hid_intro (Lib.grownBy_trans HG2.out hg3)
  have HR3 := hid_intro (HR2.out.grown hg3 (by intro e; cases e; omega))
  clear hS3 hg3 z2 HS2 HG2 HR2
  have HD : Hid (DP ao len cap g w w3.heap.size (1970 + x) (1 + y) (1 + z) (w3.alloc (.cells #[.int .i64 (1970 + x), .int .i64 (1 + y), .int .i64 (1 + z)] 24))) :=
    hid_intro ⟨HS3.out.alloc _, Lib.grownBy_trans HG3.out (World.grownBy_alloc w3 _ _), hgl, HR3.out.grown (World.grownBy_alloc w3 _ none) (by simp), HR3.out.1, DB.new w3 _ _ _ _⟩
  obtain ⟨bl, c0, c1, c2, f0, f1, f2⟩ := HD.out.dat
  go_wp2_with fail
  refine (one_any ao len cap g 6 _ (by omega) HD.out.src).mono ?_
  rintro e w11 ⟨⟨q, rfl⟩, hS, hg⟩
  replace HD := hid_intro (HD.out.call hS hg)
  clear hS hg bl c0 c1 c2 f0 f1 f2
  obtain ⟨bl, c0, c1, c2, f0, f1, f2⟩ := HD.out.dat
  cases q
  · skip
    go_wp2_with fail
    refine (one_any ao len cap g 8 _ (by omega) HD.out.src).mono ?_
    rintro e w12 ⟨⟨q, rfl⟩, hS, hg⟩
    replace HD := hid_intro (HD.out.call hS hg)
    clear hS hg bl c0 c1 c2 f0 f1 f2
    obtain ⟨bl, c0, c1, c2, f0, f1, f2⟩ := HD.out.dat
    cases q
    · skip
      go_wp2_with fail
      refine (one_any ao len cap g 20 _ (by omega) HD.out.src).mono ?_
      rintro e w13 ⟨⟨q, rfl⟩, hS, hg⟩
      replace HD := hid_intro (HD.out.call hS hg)
      clear hS hg bl c0 c1 c2 f0 f1 f2
      obtain ⟨bl, c0, c1, c2, f0, f1, f2⟩ := HD.out.dat
      cases q
      · skip
        obtain ⟨rl, r0, r1, r2, s0, s1, s2⟩ := HD.out.res
        go_wp2_with fail
        refine bodyPost_ret (v := date _ _ _) (by simp [date, results, Tryd.results41, go_sem, r0, r1, r2]; exact ⟨rfl, rfl, rfl⟩) rfl ?_
        exact ⟨⟨_, _, _, rfl⟩, HD.out.done _ _ _⟩
      · go_wp2_with fail
        have HD1 := hid_intro (HD.out.alloc (.cells (yearEdges.map (Value.int .i64)).toArray 2))
        refine (n_any ao len cap g 6 _ (by omega) HD1.out.src).mono ?_
        rintro e w62 ⟨v, rfl, v0, _, v2, hS, hg⟩
        have v3 : v < 6 := v2 (by omega)
        obtain ⟨j, rfl⟩ : ∃ j : Nat, v = j := ⟨v.toNat, by omega⟩
        obtain ⟨xe, hxe⟩ := yearEdges_at j (by omega)
        have hcell : w62.cell? ⟨w13.heap.size, j, none⟩ = some (.int .i64 xe) := hg.cell (a := ⟨w13.heap.size, j, none⟩) (yearEdges_cell w13 2 j xe hxe) (by have h1 := HD.out.grown.size; have h2 := HD.out.gl; simp; omega)
        replace HD := hid_intro (HD1.out.call hS hg)
        have j3 : (j : Int) < 6 := by omega
        have j0 : (0 : Int) ≤ j := by omega
        clear hS hg v0 v2 v3 hxe HD1 bl c0 c1 c2 f0 f1 f2
        obtain ⟨bl, c0, c1, c2, f0, f1, f2⟩ := HD.out.dat
        go_wp2_with fail
        replace HD := hid_intro (HD.out.set0 xe)
        refine (n_any ao len cap g 14 _ (by omega) HD.out.src).mono ?_
        rintro e w63 ⟨u, rfl, u0, _, u2, hS, hg⟩
        have u3 : u < 14 := u2 (by omega)
        replace HD := hid_intro (HD.out.call hS hg)
        clear hS hg u2 hcell bl c0 c1 c2 f0 f1 f2
        obtain ⟨bl, c0, c1, c2, f0, f1, f2⟩ := HD.out.dat
        obtain ⟨rl, r0, r1, r2, s0, s1, s2⟩ := HD.out.res
        have hBR := HD.out.lt
        have HD2 := hid_intro (HD.out.set1 u)
        go_wp2_with fail
        refine bodyPost_ret (v := date _ _ _) (by simp [date, results, Tryd.results41, go_sem, r0, r1, r2]; exact ⟨rfl, rfl, rfl⟩) rfl ?_
        exact ⟨⟨_, _, _, rfl⟩, HD2.out.done _ _ _⟩
    · skip
      go_wp2_with fail
      refine (n_any ao len cap g 4 _ (by omega) HD.out.src).mono ?_
      rintro e w14 ⟨a, rfl, a0, _, a2, hS, hg⟩
      have a3 : a < 4 := a2 (by omega)
      replace HD := hid_intro (HD.out.call hS hg)
      clear hS hg a2 bl c0 c1 c2 f0 f1 f2
      obtain ⟨bl, c0, c1, c2, f0, f1, f2⟩ := HD.out.dat
      replace HD := hid_intro (HD.out.set2 (29 + a))
      go_wp2_with fail
      refine (one_any ao len cap g 20 _ (by omega) HD.out.src).mono ?_
      rintro e w15 ⟨⟨q, rfl⟩, hS, hg⟩
      replace HD := hid_intro (HD.out.call hS hg)
      clear hS hg bl c0 c1 c2 f0 f1 f2
      obtain ⟨bl, c0, c1, c2, f0, f1, f2⟩ := HD.out.dat
      cases q
      · skip
        obtain ⟨rl, r0, r1, r2, s0, s1, s2⟩ := HD.out.res
        go_wp2_with fail
        refine bodyPost_ret (v := date _ _ _) (by simp [date, results, Tryd.results41, go_sem, r0, r1, r2]; exact ⟨rfl, rfl, rfl⟩) rfl ?_
        exact ⟨⟨_, _, _, rfl⟩, HD.out.done _ _ _⟩
      · go_wp2_with fail
        have HD1 := hid_intro (HD.out.alloc (.cells (yearEdges.map (Value.int .i64)).toArray 2))
        refine (n_any ao len cap g 6 _ (by omega) HD1.out.src).mono ?_
        rintro e w64 ⟨v, rfl, v0, _, v2, hS, hg⟩
        have v3 : v < 6 := v2 (by omega)
        obtain ⟨j, rfl⟩ : ∃ j : Nat, v = j := ⟨v.toNat, by omega⟩
        obtain ⟨xe, hxe⟩ := yearEdges_at j (by omega)
        have hcell : w64.cell? ⟨w15.heap.size, j, none⟩ = some (.int .i64 xe) := hg.cell (a := ⟨w15.heap.size, j, none⟩) (yearEdges_cell w15 2 j xe hxe) (by have h1 := HD.out.grown.size; have h2 := HD.out.gl; simp; omega)
        replace HD := hid_intro (HD1.out.call hS hg)
        have j3 : (j : Int) < 6 := by omega
        have j0 : (0 : Int) ≤ j := by omega
        clear hS hg v0 v2 v3 hxe HD1 bl c0 c1 c2 f0 f1 f2
        obtain ⟨bl, c0, c1, c2, f0, f1, f2⟩ := HD.out.dat
        go_wp2_with fail
        replace HD := hid_intro (HD.out.set0 xe)
        refine (n_any ao len cap g 14 _ (by omega) HD.out.src).mono ?_
        rintro e w65 ⟨u, rfl, u0, _, u2, hS, hg⟩
        have u3 : u < 14 := u2 (by omega)
        replace HD := hid_intro (HD.out.call hS hg)
        clear hS hg u2 hcell bl c0 c1 c2 f0 f1 f2
        obtain ⟨bl, c0, c1, c2, f0, f1, f2⟩ := HD.out.dat
        obtain ⟨rl, r0, r1, r2, s0, s1, s2⟩ := HD.out.res
        have hBR := HD.out.lt
        have HD2 := hid_intro (HD.out.set1 u)
        go_wp2_with fail
        refine bodyPost_ret (v := date _ _ _) (by simp [date, results, Tryd.results41, go_sem, r0, r1, r2]; exact ⟨rfl, rfl, rfl⟩) rfl ?_
        exact ⟨⟨_, _, _, rfl⟩, HD2.out.done _ _ _⟩
  · skip
    replace HD := hid_intro (HD.out.set1 2)
    go_wp2_with fail
    refine (n_any ao len cap g 3 _ (by omega) HD.out.src).mono ?_
    rintro e w16 ⟨b, rfl, b0, _, b2, hS, hg⟩
    have b3 : b < 3 := b2 (by omega)
    replace HD := hid_intro (HD.out.call hS hg)
    clear hS hg b2 bl c0 c1 c2 f0 f1 f2
    obtain ⟨bl, c0, c1, c2, f0, f1, f2⟩ := HD.out.dat
    replace HD := hid_intro (HD.out.set2 (28 + b))
    go_wp2_with fail
    refine (one_any ao len cap g 8 _ (by omega) HD.out.src).mono ?_
    rintro e w17 ⟨⟨q, rfl⟩, hS, hg⟩
    replace HD := hid_intro (HD.out.call hS hg)
    clear hS hg bl c0 c1 c2 f0 f1 f2
    obtain ⟨bl, c0, c1, c2, f0, f1, f2⟩ := HD.out.dat
    cases q
    · skip
      go_wp2_with fail
      refine (one_any ao len cap g 20 _ (by omega) HD.out.src).mono ?_
      rintro e w18 ⟨⟨q, rfl⟩, hS, hg⟩
      replace HD := hid_intro (HD.out.call hS hg)
      clear hS hg bl c0 c1 c2 f0 f1 f2
      obtain ⟨bl, c0, c1, c2, f0, f1, f2⟩ := HD.out.dat
      cases q
      · skip
        obtain ⟨rl, r0, r1, r2, s0, s1, s2⟩ := HD.out.res
        go_wp2_with fail
        refine bodyPost_ret (v := date _ _ _) (by simp [date, results, Tryd.results41, go_sem, r0, r1, r2]; exact ⟨rfl, rfl, rfl⟩) rfl ?_
        exact ⟨⟨_, _, _, rfl⟩, HD.out.done _ _ _⟩
      · go_wp2_with fail
        have HD1 := hid_intro (HD.out.alloc (.cells (yearEdges.map (Value.int .i64)).toArray 2))
        refine (n_any ao len cap g 6 _ (by omega) HD1.out.src).mono ?_
        rintro e w66 ⟨v, rfl, v0, _, v2, hS, hg⟩
        have v3 : v < 6 := v2 (by omega)
        obtain ⟨j, rfl⟩ : ∃ j : Nat, v = j := ⟨v.toNat, by omega⟩
        obtain ⟨xe, hxe⟩ := yearEdges_at j (by omega)
        have hcell : w66.cell? ⟨w18.heap.size, j, none⟩ = some (.int .i64 xe) := hg.cell (a := ⟨w18.heap.size, j, none⟩) (yearEdges_cell w18 2 j xe hxe) (by have h1 := HD.out.grown.size; have h2 := HD.out.gl; simp; omega)
        replace HD := hid_intro (HD1.out.call hS hg)
        have j3 : (j : Int) < 6 := by omega
        have j0 : (0 : Int) ≤ j := by omega
        clear hS hg v0 v2 v3 hxe HD1 bl c0 c1 c2 f0 f1 f2
        obtain ⟨bl, c0, c1, c2, f0, f1, f2⟩ := HD.out.dat
        go_wp2_with fail
        replace HD := hid_intro (HD.out.set0 xe)
        refine (n_any ao len cap g 14 _ (by omega) HD.out.src).mono ?_
        rintro e w67 ⟨u, rfl, u0, _, u2, hS, hg⟩
        have u3 : u < 14 := u2 (by omega)
        replace HD := hid_intro (HD.out.call hS hg)
        clear hS hg u2 hcell bl c0 c1 c2 f0 f1 f2
        obtain ⟨bl, c0, c1, c2, f0, f1, f2⟩ := HD.out.dat
        obtain ⟨rl, r0, r1, r2, s0, s1, s2⟩ := HD.out.res
        have hBR := HD.out.lt
        have HD2 := hid_intro (HD.out.set1 u)
        go_wp2_with fail
        refine bodyPost_ret (v := date _ _ _) (by simp [date, results, Tryd.results41, go_sem, r0, r1, r2]; exact ⟨rfl, rfl, rfl⟩) rfl ?_
        exact ⟨⟨_, _, _, rfl⟩, HD2.out.done _ _ _⟩
    · skip
      go_wp2_with fail
      refine (n_any ao len cap g 4 _ (by omega) HD.out.src).mono ?_
      rintro e w19 ⟨a, rfl, a0, _, a2, hS, hg⟩
      have a3 : a < 4 := a2 (by omega)
      replace HD := hid_intro (HD.out.call hS hg)
      clear hS hg a2 bl c0 c1 c2 f0 f1 f2
      obtain ⟨bl, c0, c1, c2, f0, f1, f2⟩ := HD.out.dat
      replace HD := hid_intro (HD.out.set2 (29 + a))
      go_wp2_with fail
      refine (one_any ao len cap g 20 _ (by omega) HD.out.src).mono ?_
      rintro e w20 ⟨⟨q, rfl⟩, hS, hg⟩
      replace HD := hid_intro (HD.out.call hS hg)
      clear hS hg bl c0 c1 c2 f0 f1 f2
      obtain ⟨bl, c0, c1, c2, f0, f1, f2⟩ := HD.out.dat
      cases q
      · skip
        obtain ⟨rl, r0, r1, r2, s0, s1, s2⟩ := HD.out.res
        go_wp2_with fail
        refine bodyPost_ret (v := date _ _ _) (by simp [date, results, Tryd.results41, go_sem, r0, r1, r2]; exact ⟨rfl, rfl, rfl⟩) rfl ?_
        exact ⟨⟨_, _, _, rfl⟩, HD.out.done _ _ _⟩
      · go_wp2_with fail
        have HD1 := hid_intro (HD.out.alloc (.cells (yearEdges.map (Value.int .i64)).toArray 2))
        refine (n_any ao len cap g 6 _ (by omega) HD1.out.src).mono ?_
        rintro e w68 ⟨v, rfl, v0, _, v2, hS, hg⟩
        have v3 : v < 6 := v2 (by omega)
        obtain ⟨j, rfl⟩ : ∃ j : Nat, v = j := ⟨v.toNat, by omega⟩
        obtain ⟨xe, hxe⟩ := yearEdges_at j (by omega)
        have hcell : w68.cell? ⟨w20.heap.size, j, none⟩ = some (.int .i64 xe) := hg.cell (a := ⟨w20.heap.size, j, none⟩) (yearEdges_cell w20 2 j xe hxe) (by have h1 := HD.out.grown.size; have h2 := HD.out.gl; simp; omega)
        replace HD := hid_intro (HD1.out.call hS hg)
        have j3 : (j : Int) < 6 := by omega
        have j0 : (0 : Int) ≤ j := by omega
        clear hS hg v0 v2 v3 hxe HD1 bl c0 c1 c2 f0 f1 f2
        obtain ⟨bl, c0, c1, c2, f0, f1, f2⟩ := HD.out.dat
        go_wp2_with fail
        replace HD := hid_intro (HD.out.set0 xe)
        refine (n_any ao len cap g 14 _ (by omega) HD.out.src).mono ?_
        rintro e w69 ⟨u, rfl, u0, _, u2, hS, hg⟩
        have u3 : u < 14 := u2 (by omega)
        replace HD := hid_intro (HD.out.call hS hg)
        clear hS hg u2 hcell bl c0 c1 c2 f0 f1 f2
        obtain ⟨bl, c0, c1, c2, f0, f1, f2⟩ := HD.out.dat
        obtain ⟨rl, r0, r1, r2, s0, s1, s2⟩ := HD.out.res
        have hBR := HD.out.lt
        have HD2 := hid_intro (HD.out.set1 u)
        go_wp2_with fail
        refine bodyPost_ret (v := date _ _ _) (by simp [date, results, Tryd.results41, go_sem, r0, r1, r2]; exact ⟨rfl, rfl, rfl⟩) rfl ?_
        exact ⟨⟨_, _, _, rfl⟩, HD2.out.done _ _ _⟩
end DrawR
end Go.Proofs.YtfnkhohommahoaaDoor
