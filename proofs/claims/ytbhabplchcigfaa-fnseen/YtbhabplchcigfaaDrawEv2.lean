/-
  A drawn event: some event of short texts; drawing writes the source's own block alone. The condition: the bytes are at most 1048576.
-/
import Derived.Test.YtbhabplchcigfaaDrawStr
import Derived.Test.YtbhabplchcigfaaDayOf
import Derived.Test.YtbhabplchcigfaaEvBlk
import Derived.Deep.RegionWith
import Derived.Deep.QuietTactic
import Derived.BigQuiet
import Derived.Deep.CutRange
import Derived.Deep.DeepCutAuto
namespace Go.Proofs.Ytbhabplchcigfaa
open Go.ChangeShapes Go.WideShapes Go.ChangeAt Go.RowKit
set_option linter.unusedVariables false
namespace DrawR
open EvtR (ev)
set_option maxHeartbeats 4000000 in
theorem start_any (w : World) : Calls Try.prog 27 #[.int .i64 600] w fun e w' => (∃ v : Int, e = .returned (.int .i64 v)) ∧ Below w.heap.size w w' := by
  have HD := hid_intro (fun w => DateR.spec_dayof 2020 1 1 w)
  generalize (if DateM.rightB 2020 1 1 = true then DateM.num 2020 1 1 else -1) = D at *
  unfold DateR.date at *
  go_enter Try.func27, Try.ntmps27
  go_wp2_with (go_at_call 52; refine (HD.out _).mono ?_; rintro e w1 ⟨rfl, hb1⟩)
  go_ret
  exact ⟨⟨_, rfl⟩, by first | exact hb1 | exact bel_alloc hb1⟩
theorem strs_new (w : World) (L : List ByteArray) (K : Nat) (T : TypeId) (hK : ∀ x ∈ L, x.size ≤ K) : Strs w.heap.size L.length K (w.alloc (.cells (L.map Value.string).toArray T)) := by
  refine ⟨by simp, fun j hj => ⟨L[j], ?_, hK _ (List.getElem_mem hj)⟩⟩
  simp [go_sem, hj]
theorem ints_cell (w : World) (L : List Int) (T : TypeId) (j : Nat) (X : Int) (h : L[j]? = some X) : (w.alloc (.cells (L.map (Value.int .i64)).toArray T)).cell? ⟨w.heap.size, j, none⟩ = some (.int .i64 X) := by
  rw [World.cell?_alloc_at _ _ _ _ rfl]
  simp [h]
theorem own_str {w : World} {base n : Nat} {v : Value} {xs : List Int} (h : w.ownsRow base 5 1 v n (xs.map (Value.int .u8))) (hne : v ≠ .slice none 0 0) :
    ∃ g cap, v = .slice (some ⟨g, 0, none⟩) n cap ∧ (convert 22 9 (.slice (some ⟨g, 0, none⟩) n cap)).run Try.prog w = .ok (.string (strOfNums xs)) w := by
  have hl := h.1
  rcases h.2 with ⟨h0, _⟩ | ⟨g, cap, cur, hv, _⟩
  · exact absurd h0 hne
  · refine ⟨g, cap, hv, ?_⟩
    have hlen : xs.length = n := by simpa using hl
    refine run_convert_bytes_arg w 22 5 Try.underlying22 Try.underlying5 g 0 n cap xs hlen ?_ 9 Try.underlying9
    intro i hi
    have := h.cells (g := g) (by rw [hv]; rfl) i (.int .u8 (xs.getD i 0)) (by simp [List.getElem?_map, List.getD, List.getElem?_eq_getElem (show i < xs.length by omega)])
    rw [← this]
    congr 1
    unfold Addr.add; split <;> simp_all
/-- A block of an event that may be written. -/
def B6 (B : Nat) (i a m : ByteArray) (n k : Int) (t : ByteArray) (w : World) : Prop := B < w.heap.size ∧ (w.cell? ⟨B, 0, none⟩ = some (.string i) ∧ w.cell? ⟨B, 1, none⟩ = some (.string a) ∧ w.cell? ⟨B, 2, none⟩ = some (.string m) ∧ w.cell? ⟨B, 3, none⟩ = some (.int .i64 n) ∧ w.cell? ⟨B, 4, none⟩ = some (.int .i64 k) ∧ w.cell? ⟨B, 5, none⟩ = some (.string t)) ∧ ∀ o, o < 6 → w.frozen? ⟨B, o, none⟩ = false
theorem B6.new (w : World) (i a m : ByteArray) (n k : Int) (t : ByteArray) (T : TypeId) : B6 w.heap.size i a m n k t (w.alloc (.cells #[.string i, .string a, .string m, .int .i64 n, .int .i64 k, .string t] T)) :=
  ⟨by simp, ⟨by simp [go_sem], by simp [go_sem], by simp [go_sem], by simp [go_sem], by simp [go_sem], by simp [go_sem]⟩, fun o _ => by simp [go_sem]⟩
theorem B6.grown {B : Nat} {i a m : ByteArray} {n k : Int} {t : ByteArray} {w w' : World} {row : Option Nat} (h : B6 B i a m n k t w) (hg : w.grownBy w' row) (hne : some B ≠ row) : B6 B i a m n k t w' := by
  obtain ⟨hl, ⟨h0, h1, h2, h3, h4, h5⟩, hf⟩ := h
  have e := hg.block B hl hne
  have c := fun j => World.cell?_of_block (a := ⟨B, j, none⟩) e
  have z := fun j => World.frozen?_of_block (a := ⟨B, j, none⟩) e
  exact ⟨by have := hg.size; omega, ⟨(c 0).trans h0, (c 1).trans h1, (c 2).trans h2, (c 3).trans h3, (c 4).trans h4, (c 5).trans h5⟩, fun o ho => (z o).trans (hf o ho)⟩
theorem src_set {ao : Option Addr} {len cap g : Nat} {w : World} (h : Src ao len cap g w) {X : Nat} (hX : g < X) (o : Nat) (v : Value) : Src ao len cap g (w.setCell ⟨X, o, none⟩ v) := h.kept (rset w X o v) (fun k e => by cases e; exact hX)
theorem set_new {w wx : World} {g X : Nat} (h : w.grownBy wx (some g)) (hX : w.heap.size ≤ X) (o : Nat) (v : Value) : w.grownBy (wx.setCell ⟨X, o, none⟩ v) (some g) := gnew' h hX
/-- An event that was drawn. -/
def EvOut (ao : Option Addr) (len cap g : Nat) (w : World) (e : Ending) (w' : World) : Prop := (∃ (i a m : ByteArray) (n k : Int) (t : ByteArray), e = .returned (ev i a m n k t) ∧ i.size ≤ 100 ∧ a.size ≤ 100 ∧ m.size ≤ 100 ∧ t.size ≤ 100) ∧ Src ao len cap g w' ∧ w.grownBy w' (some g)
set_option maxRecDepth 100000 in
set_option maxHeartbeats 8000000 in
theorem event_any (ao : Option Addr) (len cap g : Nat) (w : World) (hS : Src ao len cap g w) :
    Calls Try.prog 18 #[.pointer (some ⟨g, 0, none⟩)] w fun e w' => EvOut ao len cap g w e w' := by
  have HS := hid_intro hS
  have hgl := hS.lt
  clear hS
  go_enter Try.func18, Try.ntmps18
  obtain ⟨W0, hW0⟩ : ∃ W0, W0 = w.alloc (.cells #[.string ⟨#[]⟩, .string ⟨#[]⟩, .string ⟨#[]⟩, .int .i64 0, .int .i64 0, .string ⟨#[]⟩] 25) := ⟨_, rfl⟩
  have HW0 := hid_intro hW0
  have HZP : Hid (Z6 w.heap.size W0) := hid_intro (by rw [hW0]; exact Z6.new w 25)
  have HGP : Hid (w.grownBy W0 (some g)) := hid_intro (by rw [hW0]; exact World.grownBy_alloc _ _ _)
  have HSP : Hid (Src ao len cap g W0) := hid_intro (by rw [hW0]; exact HS.out.alloc _)
  have HLP : Hid (w.heap.size < W0.heap.size) := hid_intro (by rw [hW0]; simp)
  clear hW0
  go_wp2_with fail
  rw [← HW0.out]
  have ew0 : w.heap.size + 1 = W0.heap.size := by rw [HW0.out]; simp
  rw [ew0]
  have HS1 := hid_intro (HSP.out.alloc (.cells (List.map Value.string [⟨#[101, 49]⟩, ⟨#[101, 50]⟩, ⟨#[101, 51]⟩, ⟨#[101, 52]⟩, ⟨#[101, 53]⟩]).toArray 9))
  have HT1 := hid_intro (strs_new W0 [⟨#[101, 49]⟩, ⟨#[101, 50]⟩, ⟨#[101, 51]⟩, ⟨#[101, 52]⟩, ⟨#[101, 53]⟩] 100 9 (by decide))
  refine (pick_any ao len cap g W0.heap.size 5 100 _ (by omega) (by omega) (by have := HLP.out; omega) HS1.out HT1.out).mono ?_
  rintro e w1 ⟨⟨t1, rfl, ht1⟩, hS, hg⟩
  replace HZP := hid_intro ((HZP.out.grown (World.grownBy_alloc W0 (.cells (List.map Value.string [⟨#[101, 49]⟩, ⟨#[101, 50]⟩, ⟨#[101, 51]⟩, ⟨#[101, 52]⟩, ⟨#[101, 53]⟩]).toArray 9) none) (by simp)).grown hg (by simp; omega))
  replace HGP := hid_intro (Lib.grownBy_trans (Lib.grownBy_trans HGP.out (World.grownBy_alloc W0 (.cells (List.map Value.string [⟨#[101, 49]⟩, ⟨#[101, 50]⟩, ⟨#[101, 51]⟩, ⟨#[101, 52]⟩, ⟨#[101, 53]⟩]).toArray 9) (some g))) hg)
  replace HSP := hid_intro hS
  replace HLP : Hid (w.heap.size < w1.heap.size) := hid_intro HZP.out.1
  have Ht1 := hid_intro ht1
  clear hS hg HS1 HT1 ht1
  go_wp2_with fail
  have HS1 := hid_intro (HSP.out.alloc (.cells (List.map Value.string [⟨#[97, 110, 110]⟩, ⟨#[98, 111, 98]⟩]).toArray 9))
  have HT1 := hid_intro (strs_new w1 [⟨#[97, 110, 110]⟩, ⟨#[98, 111, 98]⟩] 100 9 (by decide))
  refine (pick_any ao len cap g w1.heap.size 2 100 _ (by omega) (by omega) (by have := HLP.out; omega) HS1.out HT1.out).mono ?_
  rintro e w2 ⟨⟨t2, rfl, ht2⟩, hS, hg⟩
  replace HZP := hid_intro ((HZP.out.grown (World.grownBy_alloc w1 (.cells (List.map Value.string [⟨#[97, 110, 110]⟩, ⟨#[98, 111, 98]⟩]).toArray 9) none) (by simp)).grown hg (by simp; omega))
  replace HGP := hid_intro (Lib.grownBy_trans (Lib.grownBy_trans HGP.out (World.grownBy_alloc w1 (.cells (List.map Value.string [⟨#[97, 110, 110]⟩, ⟨#[98, 111, 98]⟩]).toArray 9) (some g))) hg)
  replace HSP := hid_intro hS
  replace HLP : Hid (w.heap.size < w2.heap.size) := hid_intro HZP.out.1
  have Ht2 := hid_intro ht2
  clear hS hg HS1 HT1 ht2
  go_wp2_with fail
  have HS1 := hid_intro (HSP.out.alloc (.cells (List.map Value.string [⟨#[99, 112, 117]⟩, ⟨#[100, 105, 115, 107]⟩, ⟨#[110, 101, 116]⟩, ⟨#[117, 115, 101, 114, 115]⟩]).toArray 9))
  have HT1 := hid_intro (strs_new w2 [⟨#[99, 112, 117]⟩, ⟨#[100, 105, 115, 107]⟩, ⟨#[110, 101, 116]⟩, ⟨#[117, 115, 101, 114, 115]⟩] 100 9 (by decide))
  refine (pick_any ao len cap g w2.heap.size 4 100 _ (by omega) (by omega) (by have := HLP.out; omega) HS1.out HT1.out).mono ?_
  rintro e w3 ⟨⟨t3, rfl, ht3⟩, hS, hg⟩
  replace HZP := hid_intro ((HZP.out.grown (World.grownBy_alloc w2 (.cells (List.map Value.string [⟨#[99, 112, 117]⟩, ⟨#[100, 105, 115, 107]⟩, ⟨#[110, 101, 116]⟩, ⟨#[117, 115, 101, 114, 115]⟩]).toArray 9) none) (by simp)).grown hg (by simp; omega))
  replace HGP := hid_intro (Lib.grownBy_trans (Lib.grownBy_trans HGP.out (World.grownBy_alloc w2 (.cells (List.map Value.string [⟨#[99, 112, 117]⟩, ⟨#[100, 105, 115, 107]⟩, ⟨#[110, 101, 116]⟩, ⟨#[117, 115, 101, 114, 115]⟩]).toArray 9) (some g))) hg)
  replace HSP := hid_intro hS
  replace HLP : Hid (w.heap.size < w3.heap.size) := hid_intro HZP.out.1
  have Ht3 := hid_intro ht3
  clear hS hg HS1 HT1 ht3
  go_wp2_with fail
  refine (start_any _).mono ?_
  rintro e w4 ⟨⟨v4, rfl⟩, hb4⟩
  replace HZP := hid_intro (HZP.out.grown (rgrown hb4 none) (by simp))
  replace HGP := hid_intro (Lib.grownBy_trans HGP.out (rgrown hb4 (some g)))
  replace HSP := hid_intro (HSP.out.kept (rgrown hb4 none) (fun k e => by cases e))
  replace HLP : Hid (w.heap.size < w4.heap.size) := hid_intro HZP.out.1
  clear hb4
  go_wp2_with fail
  refine (n_any ao len cap g 900 _ (by omega) HSP.out).mono ?_
  rintro e w5 ⟨v5, rfl, lo5, _, hi5, hS, hg⟩
  have ht5 : v5 < 900 := hi5 (by omega)
  replace HZP := hid_intro (HZP.out.grown hg (by simp; omega))
  replace HGP := hid_intro (Lib.grownBy_trans HGP.out hg)
  replace HSP := hid_intro hS
  replace HLP : Hid (w.heap.size < w5.heap.size) := hid_intro HZP.out.1
  clear hS hg hi5
  go_wp2_with fail
  refine (n_any ao len cap g 60 _ (by omega) HSP.out).mono ?_
  rintro e w6 ⟨v6, rfl, lo6, _, hi6, hS, hg⟩
  have ht6 : v6 < 60 := hi6 (by omega)
  replace HZP := hid_intro (HZP.out.grown hg (by simp; omega))
  replace HGP := hid_intro (Lib.grownBy_trans HGP.out hg)
  replace HSP := hid_intro hS
  replace HLP : Hid (w.heap.size < w6.heap.size) := hid_intro HZP.out.1
  clear hS hg hi6
  go_wp2_with fail
  refine (n_any ao len cap g 500 _ (by omega) HSP.out).mono ?_
  rintro e w7 ⟨v7, rfl, lo7, _, hi7, hS, hg⟩
  have ht7 : v7 < 500 := hi7 (by omega)
  replace HZP := hid_intro (HZP.out.grown hg (by simp; omega))
  replace HGP := hid_intro (Lib.grownBy_trans HGP.out hg)
  replace HSP := hid_intro hS
  replace HLP : Hid (w.heap.size < w7.heap.size) := hid_intro HZP.out.1
  clear hS hg hi7
  go_wp2_with fail
  have HS1 := hid_intro (HSP.out.alloc (.cells (List.map Value.string [⟨#[]⟩, ⟨#[97]⟩, ⟨#[98]⟩, ⟨#[99]⟩]).toArray 9))
  have HT1 := hid_intro (strs_new w7 [⟨#[]⟩, ⟨#[97]⟩, ⟨#[98]⟩, ⟨#[99]⟩] 100 9 (by decide))
  refine (pick_any ao len cap g w7.heap.size 4 100 _ (by omega) (by omega) (by have := HLP.out; omega) HS1.out HT1.out).mono ?_
  rintro e w8 ⟨⟨t8, rfl, ht8⟩, hS, hg⟩
  replace HZP := hid_intro ((HZP.out.grown (World.grownBy_alloc w7 (.cells (List.map Value.string [⟨#[]⟩, ⟨#[97]⟩, ⟨#[98]⟩, ⟨#[99]⟩]).toArray 9) none) (by simp)).grown hg (by simp; omega))
  replace HGP := hid_intro (Lib.grownBy_trans (Lib.grownBy_trans HGP.out (World.grownBy_alloc w7 (.cells (List.map Value.string [⟨#[]⟩, ⟨#[97]⟩, ⟨#[98]⟩, ⟨#[99]⟩]).toArray 9) (some g))) hg)
  replace HSP := hid_intro hS
  replace HLP : Hid (w.heap.size < w8.heap.size) := hid_intro HZP.out.1
  have Ht8 := hid_intro ht8
  clear hS hg HS1 HT1 ht8
  go_wp2_with fail
  generalize wrap64 (wrap64 (v4 + 60 * v5) + v6) = nn at *
  have HEP : Hid (B6 w8.heap.size t1 t2 t3 nn v7 t8 (w8.alloc (.cells #[.string t1, .string t2, .string t3, .int .i64 nn, .int .i64 v7, .string t8] 25))) := hid_intro (B6.new w8 t1 t2 t3 nn v7 t8 _)
  have HEB : Hid (w.heap.size < w8.heap.size ∧ g < w8.heap.size) := hid_intro (by have := HLP.out; omega)
  replace HZP := hid_intro (HZP.out.grown (World.grownBy_alloc w8 (.cells #[.string t1, .string t2, .string t3, .int .i64 nn, .int .i64 v7, .string t8] 25) none) (by simp))
  replace HGP := hid_intro (Lib.grownBy_trans HGP.out (World.grownBy_alloc w8 (.cells #[.string t1, .string t2, .string t3, .int .i64 nn, .int .i64 v7, .string t8] 25) (some g)))
  replace HSP := hid_intro (HSP.out.alloc (.cells #[.string t1, .string t2, .string t3, .int .i64 nn, .int .i64 v7, .string t8] 25))
  refine (one_any ao len cap g 25 _ (by omega) HSP.out).mono ?_
  rintro e w9 ⟨⟨q, rfl⟩, hS, hg⟩
  replace HZP := hid_intro (HZP.out.grown hg (by simp; omega))
  replace HEP := hid_intro (HEP.out.grown hg (by have := HEB.out; simp; omega))
  replace HGP := hid_intro (Lib.grownBy_trans HGP.out hg)
  replace HSP := hid_intro hS
  clear hS hg
  cases q
  · obtain ⟨be, ⟨x0, x1, x2, x3, x4, x5⟩, xf⟩ := HEP.out
    obtain ⟨bz, zz⟩ := HZP.out
    have z0 : w9.cell? ⟨w.heap.size, 0, none⟩ = some (.string ⟨#[]⟩) := (zz 0 (by omega)).1
    have z1 : w9.cell? ⟨w.heap.size, 1, none⟩ = some (.string ⟨#[]⟩) := (zz 1 (by omega)).1
    have z2 : w9.cell? ⟨w.heap.size, 2, none⟩ = some (.string ⟨#[]⟩) := (zz 2 (by omega)).1
    have z3 : w9.cell? ⟨w.heap.size, 3, none⟩ = some (.int .i64 0) := (zz 3 (by omega)).1
    have z4 : w9.cell? ⟨w.heap.size, 4, none⟩ = some (.int .i64 0) := (zz 4 (by omega)).1
    have z5 : w9.cell? ⟨w.heap.size, 5, none⟩ = some (.string ⟨#[]⟩) := (zz 5 (by omega)).1
    have y0 := (zz 0 (by omega)).2
    have y1 := (zz 1 (by omega)).2
    have y2 := (zz 2 (by omega)).2
    have y3 := (zz 3 (by omega)).2
    have y4 := (zz 4 (by omega)).2
    have y5 := (zz 5 (by omega)).2
    have xf0 := xf 0 (by omega)
    have xf1 := xf 1 (by omega)
    have xf2 := xf 2 (by omega)
    have xf3 := xf 3 (by omega)
    have xf4 := xf 4 (by omega)
    have xf5 := xf 5 (by omega)
    have hEB := HEB.out
    clear zz xf
    have HSE := HSP
    have HGE := HGP
    go_wp2_with fail
    refine bodyPost_ret (v := ev t1 t2 t3 nn v7 t8) (by simp [ev, results, Try.results18, go_sem, z0, z1, z2, z3, z4, z5]) rfl ⟨⟨t1, t2, t3, nn, v7, t8, rfl, Ht1.out, Ht2.out, Ht3.out, Ht8.out⟩, ?_, ?_⟩
    · exact src_set (src_set (src_set (src_set (src_set (src_set HSE.out (by omega) _ _) (by omega) _ _) (by omega) _ _) (by omega) _ _) (by omega) _ _) (by omega) _ _
    · exact set_new (set_new (set_new (set_new (set_new (set_new HGE.out (Nat.le_refl _) _ _) (Nat.le_refl _) _ _) (Nat.le_refl _) _ _) (Nat.le_refl _) _ _) (Nat.le_refl _) _ _) (Nat.le_refl _) _ _
  · go_wp2_with fail
    refine (n_any ao len cap g 5 _ (by omega) HSP.out).mono ?_
    rintro e w10 ⟨v10, rfl, lo10, _, hi10, hS, hg⟩
    have ht10 : v10 < 5 := hi10 (by omega)
    replace HEP := hid_intro (HEP.out.grown hg (by have := HEB.out; simp; omega))
    replace HZP := hid_intro (HZP.out.grown hg (by simp; omega))
    replace HGP := hid_intro (Lib.grownBy_trans HGP.out hg)
    replace HSP := hid_intro hS
    have HL10 : Hid (w8.heap.size < w10.heap.size) := hid_intro HEP.out.1
    clear hS hg hi10
    rcases (show v10 = 0 ∨ v10 = 1 ∨ v10 = 2 ∨ v10 = 3 ∨ v10 = 4 by omega) with rfl | rfl | rfl | rfl | rfl
    · obtain ⟨i0, hi, hz0, hz1, hz2⟩ := info_parts Tryinfo5
      go_wp2_with (at_make; refine wpList_make_full _ rfl _ _ 22 rfl w.heap.size 5 i0 (.int .u8 0) 1 Try.underlying22 hi hz0 hz1 .i64 .i64 _ _ 21 rfl rfl rfl rfl ?b2 ?b3 ?b4 ?_)
      case b2 => rw [hz2]; omega
      case b3 => unfold maxLen; omega
      case b4 => have := HL10.out; have := HEB.out; omega
      intro wm hown hgrow
      have hx : (madeCells #[Value.int IntKind.u8 0] 21).toList = (List.replicate 21 (0 : Int)).map (Value.int .u8) := by
        rw [toList_madeCells_one, List.map_replicate]
      rw [hx] at hown
      obtain ⟨g2, cap2, hv, hconv⟩ := own_str hown (by simp)
      simp only [Value.slice.injEq, Option.some.injEq, Addr.mk.injEq, and_true, true_and] at hv
      obtain ⟨rfl, rfl⟩ := hv
      have hT : (strOfNums (List.replicate 21 (0 : Int))).size = 21 := by rw [strOfNums_size, List.length_replicate]
      generalize strOfNums (List.replicate 21 (0 : Int)) = T21 at *
      replace HEP := hid_intro (HEP.out.grown hgrow (by simp))
      replace HZP := hid_intro (HZP.out.grown hgrow (by simp))
      replace HGP := hid_intro (Lib.grownBy_trans HGP.out (⟨hgrow.os, hgrow.tape, hgrow.output, hgrow.size, fun k hk _ => hgrow.block k hk (by simp)⟩ : w10.grownBy wm (some g)))
      replace HSP := hid_intro (HSP.out.kept hgrow (fun k e => by cases e))
      have HL11 : Hid (w8.heap.size < wm.heap.size) := hid_intro HEP.out.1
      clear hown hgrow hx hi hz0 hz1 hz2
      go_wp2_with fail
      have HS1 := hid_intro (HSP.out.alloc (.cells (List.map Value.string [⟨#[]⟩, ⟨#[32]⟩, T21]).toArray 9))
      have HT1 := hid_intro (strs_new wm [⟨#[]⟩, ⟨#[32]⟩, T21] 100 9 (by
        intro x hx
        simp only [List.mem_cons, List.not_mem_nil, or_false] at hx
        rcases hx with rfl | rfl | rfl
        · decide
        · decide
        · omega))
      refine (pick_any ao len cap g wm.heap.size 3 100 _ (by omega) (by omega) (by have := HL11.out; have := HEB.out; omega) HS1.out HT1.out).mono ?_
      rintro e w11 ⟨⟨t11, rfl, ht11⟩, hS, hg⟩
      replace HEP := hid_intro ((HEP.out.grown (World.grownBy_alloc wm (.cells (List.map Value.string [⟨#[]⟩, ⟨#[32]⟩, T21]).toArray 9) none) (by simp)).grown hg (by have := HEB.out; simp; omega))
      replace HZP := hid_intro ((HZP.out.grown (World.grownBy_alloc wm (.cells (List.map Value.string [⟨#[]⟩, ⟨#[32]⟩, T21]).toArray 9) none) (by simp)).grown hg (by simp; omega))
      replace HGP := hid_intro (Lib.grownBy_trans (Lib.grownBy_trans HGP.out (World.grownBy_alloc wm (.cells (List.map Value.string [⟨#[]⟩, ⟨#[32]⟩, T21]).toArray 9) (some g))) hg)
      replace HSP := hid_intro hS
      have Ht11 := hid_intro ht11
      clear hS hg HS1 HT1 ht11 hconv
      obtain ⟨be, ⟨x0, x1, x2, x3, x4, x5⟩, xf⟩ := HEP.out
      obtain ⟨bz, zz⟩ := HZP.out
      have z0 : w11.cell? ⟨w.heap.size, 0, none⟩ = some (.string ⟨#[]⟩) := (zz 0 (by omega)).1
      have z1 : w11.cell? ⟨w.heap.size, 1, none⟩ = some (.string ⟨#[]⟩) := (zz 1 (by omega)).1
      have z2 : w11.cell? ⟨w.heap.size, 2, none⟩ = some (.string ⟨#[]⟩) := (zz 2 (by omega)).1
      have z3 : w11.cell? ⟨w.heap.size, 3, none⟩ = some (.int .i64 0) := (zz 3 (by omega)).1
      have z4 : w11.cell? ⟨w.heap.size, 4, none⟩ = some (.int .i64 0) := (zz 4 (by omega)).1
      have z5 : w11.cell? ⟨w.heap.size, 5, none⟩ = some (.string ⟨#[]⟩) := (zz 5 (by omega)).1
      have y0 := (zz 0 (by omega)).2
      have y1 := (zz 1 (by omega)).2
      have y2 := (zz 2 (by omega)).2
      have y3 := (zz 3 (by omega)).2
      have y4 := (zz 4 (by omega)).2
      have y5 := (zz 5 (by omega)).2
      have xf0 := xf 0 (by omega)
      have xf1 := xf 1 (by omega)
      have xf2 := xf 2 (by omega)
      have xf3 := xf 3 (by omega)
      have xf4 := xf 4 (by omega)
      have xf5 := xf 5 (by omega)
      have hEB := HEB.out
      clear zz xf
      have HSE := hid_intro (src_set HSP.out (X := w8.heap.size) (by omega) 0 (.string t11))
      have HGE := hid_intro (set_new HGP.out (X := w8.heap.size) (by omega) 0 (.string t11))
      go_wp2_with fail
      refine bodyPost_ret (v := ev t11 t2 t3 nn v7 t8) (by simp [ev, results, Try.results18, go_sem, z0, z1, z2, z3, z4, z5]) rfl ⟨⟨t11, t2, t3, nn, v7, t8, rfl, Ht11.out, Ht2.out, Ht3.out, Ht8.out⟩, ?_, ?_⟩
      · exact src_set (src_set (src_set (src_set (src_set (src_set HSE.out (by omega) _ _) (by omega) _ _) (by omega) _ _) (by omega) _ _) (by omega) _ _) (by omega) _ _
      · exact set_new (set_new (set_new (set_new (set_new (set_new HGE.out (Nat.le_refl _) _ _) (Nat.le_refl _) _ _) (Nat.le_refl _) _ _) (Nat.le_refl _) _ _) (Nat.le_refl _) _ _) (Nat.le_refl _) _ _
    · go_wp2_with fail
      have HS1 := hid_intro (HSP.out.alloc (.cells (List.map (Value.int .i64) [-1, 0, 121000000, 121000001]).toArray 2))
      refine (n_any ao len cap g 4 _ (by omega) HS1.out).mono ?_
      rintro e w11 ⟨v11, rfl, lo11, _, hi11, hS, hg⟩
      have ht11 : v11 < 4 := hi11 (by omega)
      obtain ⟨j, rfl⟩ : ∃ j : Nat, v11 = j := ⟨v11.toNat, by omega⟩
      have hj : j < 4 := by omega
      obtain ⟨X, hX⟩ : ∃ X : Int, ([-1, 0, 121000000, 121000001] : List Int)[j]? = some X := ⟨_, List.getElem?_eq_getElem (by simpa using hj)⟩
      have cX : w11.cell? ⟨w10.heap.size, j, none⟩ = some (.int .i64 X) := (World.cell?_of_block (a := ⟨w10.heap.size, j, none⟩) (hg.block w10.heap.size (by simp) (by have := HEB.out; have := HL10.out; simp; omega))).trans (ints_cell w10 _ _ j X hX)
      replace HEP := hid_intro ((HEP.out.grown (World.grownBy_alloc w10 (.cells (List.map (Value.int .i64) [-1, 0, 121000000, 121000001]).toArray 2) none) (by simp)).grown hg (by have := HEB.out; simp; omega))
      replace HZP := hid_intro ((HZP.out.grown (World.grownBy_alloc w10 (.cells (List.map (Value.int .i64) [-1, 0, 121000000, 121000001]).toArray 2) none) (by simp)).grown hg (by simp; omega))
      replace HGP := hid_intro (Lib.grownBy_trans (Lib.grownBy_trans HGP.out (World.grownBy_alloc w10 (.cells (List.map (Value.int .i64) [-1, 0, 121000000, 121000001]).toArray 2) (some g))) hg)
      replace HSP := hid_intro hS
      have hl11 : w10.heap.size < w11.heap.size := by have := hg.size; simp at this; omega
      clear hS hg HS1 hX hi11
      obtain ⟨be, ⟨x0, x1, x2, x3, x4, x5⟩, xf⟩ := HEP.out
      obtain ⟨bz, zz⟩ := HZP.out
      have z0 : w11.cell? ⟨w.heap.size, 0, none⟩ = some (.string ⟨#[]⟩) := (zz 0 (by omega)).1
      have z1 : w11.cell? ⟨w.heap.size, 1, none⟩ = some (.string ⟨#[]⟩) := (zz 1 (by omega)).1
      have z2 : w11.cell? ⟨w.heap.size, 2, none⟩ = some (.string ⟨#[]⟩) := (zz 2 (by omega)).1
      have z3 : w11.cell? ⟨w.heap.size, 3, none⟩ = some (.int .i64 0) := (zz 3 (by omega)).1
      have z4 : w11.cell? ⟨w.heap.size, 4, none⟩ = some (.int .i64 0) := (zz 4 (by omega)).1
      have z5 : w11.cell? ⟨w.heap.size, 5, none⟩ = some (.string ⟨#[]⟩) := (zz 5 (by omega)).1
      have y0 := (zz 0 (by omega)).2
      have y1 := (zz 1 (by omega)).2
      have y2 := (zz 2 (by omega)).2
      have y3 := (zz 3 (by omega)).2
      have y4 := (zz 4 (by omega)).2
      have y5 := (zz 5 (by omega)).2
      have xf0 := xf 0 (by omega)
      have xf1 := xf 1 (by omega)
      have xf2 := xf 2 (by omega)
      have xf3 := xf 3 (by omega)
      have xf4 := xf 4 (by omega)
      have xf5 := xf 5 (by omega)
      have hEB := HEB.out
      clear zz xf
      have HSE := hid_intro (src_set HSP.out (X := w8.heap.size) (by omega) 3 (.int .i64 X))
      have HGE := hid_intro (set_new HGP.out (X := w8.heap.size) (by omega) 3 (.int .i64 X))
      go_wp2_with fail
      refine bodyPost_ret (v := ev t1 t2 t3 X v7 t8) (by simp [ev, results, Try.results18, go_sem, z0, z1, z2, z3, z4, z5]) rfl ⟨⟨t1, t2, t3, X, v7, t8, rfl, Ht1.out, Ht2.out, Ht3.out, Ht8.out⟩, ?_, ?_⟩
      · exact src_set (src_set (src_set (src_set (src_set (src_set HSE.out (by omega) _ _) (by omega) _ _) (by omega) _ _) (by omega) _ _) (by omega) _ _) (by omega) _ _
      · exact set_new (set_new (set_new (set_new (set_new (set_new HGE.out (Nat.le_refl _) _ _) (Nat.le_refl _) _ _) (Nat.le_refl _) _ _) (Nat.le_refl _) _ _) (Nat.le_refl _) _ _) (Nat.le_refl _) _ _
    · go_wp2_with fail
      have HS1 := hid_intro (HSP.out.alloc (.cells (List.map (Value.int .i64) [-1, 1000000000, 1000000001]).toArray 2))
      refine (n_any ao len cap g 3 _ (by omega) HS1.out).mono ?_
      rintro e w11 ⟨v11, rfl, lo11, _, hi11, hS, hg⟩
      have ht11 : v11 < 3 := hi11 (by omega)
      obtain ⟨j, rfl⟩ : ∃ j : Nat, v11 = j := ⟨v11.toNat, by omega⟩
      have hj : j < 3 := by omega
      obtain ⟨X, hX⟩ : ∃ X : Int, ([-1, 1000000000, 1000000001] : List Int)[j]? = some X := ⟨_, List.getElem?_eq_getElem (by simpa using hj)⟩
      have cX : w11.cell? ⟨w10.heap.size, j, none⟩ = some (.int .i64 X) := (World.cell?_of_block (a := ⟨w10.heap.size, j, none⟩) (hg.block w10.heap.size (by simp) (by have := HEB.out; have := HL10.out; simp; omega))).trans (ints_cell w10 _ _ j X hX)
      replace HEP := hid_intro ((HEP.out.grown (World.grownBy_alloc w10 (.cells (List.map (Value.int .i64) [-1, 1000000000, 1000000001]).toArray 2) none) (by simp)).grown hg (by have := HEB.out; simp; omega))
      replace HZP := hid_intro ((HZP.out.grown (World.grownBy_alloc w10 (.cells (List.map (Value.int .i64) [-1, 1000000000, 1000000001]).toArray 2) none) (by simp)).grown hg (by simp; omega))
      replace HGP := hid_intro (Lib.grownBy_trans (Lib.grownBy_trans HGP.out (World.grownBy_alloc w10 (.cells (List.map (Value.int .i64) [-1, 1000000000, 1000000001]).toArray 2) (some g))) hg)
      replace HSP := hid_intro hS
      have hl11 : w10.heap.size < w11.heap.size := by have := hg.size; simp at this; omega
      clear hS hg HS1 hX hi11
      obtain ⟨be, ⟨x0, x1, x2, x3, x4, x5⟩, xf⟩ := HEP.out
      obtain ⟨bz, zz⟩ := HZP.out
      have z0 : w11.cell? ⟨w.heap.size, 0, none⟩ = some (.string ⟨#[]⟩) := (zz 0 (by omega)).1
      have z1 : w11.cell? ⟨w.heap.size, 1, none⟩ = some (.string ⟨#[]⟩) := (zz 1 (by omega)).1
      have z2 : w11.cell? ⟨w.heap.size, 2, none⟩ = some (.string ⟨#[]⟩) := (zz 2 (by omega)).1
      have z3 : w11.cell? ⟨w.heap.size, 3, none⟩ = some (.int .i64 0) := (zz 3 (by omega)).1
      have z4 : w11.cell? ⟨w.heap.size, 4, none⟩ = some (.int .i64 0) := (zz 4 (by omega)).1
      have z5 : w11.cell? ⟨w.heap.size, 5, none⟩ = some (.string ⟨#[]⟩) := (zz 5 (by omega)).1
      have y0 := (zz 0 (by omega)).2
      have y1 := (zz 1 (by omega)).2
      have y2 := (zz 2 (by omega)).2
      have y3 := (zz 3 (by omega)).2
      have y4 := (zz 4 (by omega)).2
      have y5 := (zz 5 (by omega)).2
      have xf0 := xf 0 (by omega)
      have xf1 := xf 1 (by omega)
      have xf2 := xf 2 (by omega)
      have xf3 := xf 3 (by omega)
      have xf4 := xf 4 (by omega)
      have xf5 := xf 5 (by omega)
      have hEB := HEB.out
      clear zz xf
      have HSE := hid_intro (src_set HSP.out (X := w8.heap.size) (by omega) 4 (.int .i64 X))
      have HGE := hid_intro (set_new HGP.out (X := w8.heap.size) (by omega) 4 (.int .i64 X))
      go_wp2_with fail
      refine bodyPost_ret (v := ev t1 t2 t3 nn X t8) (by simp [ev, results, Try.results18, go_sem, z0, z1, z2, z3, z4, z5]) rfl ⟨⟨t1, t2, t3, nn, X, t8, rfl, Ht1.out, Ht2.out, Ht3.out, Ht8.out⟩, ?_, ?_⟩
      · exact src_set (src_set (src_set (src_set (src_set (src_set HSE.out (by omega) _ _) (by omega) _ _) (by omega) _ _) (by omega) _ _) (by omega) _ _) (by omega) _ _
      · exact set_new (set_new (set_new (set_new (set_new (set_new HGE.out (Nat.le_refl _) _ _) (Nat.le_refl _) _ _) (Nat.le_refl _) _ _) (Nat.le_refl _) _ _) (Nat.le_refl _) _ _) (Nat.le_refl _) _ _
    · go_wp2_with fail
      have HS1 := hid_intro (HSP.out.alloc (.cells (List.map Value.string [⟨#[]⟩, ⟨#[65]⟩]).toArray 9))
      have HT1 := hid_intro (strs_new w10 [⟨#[]⟩, ⟨#[65]⟩] 100 9 (by decide))
      refine (pick_any ao len cap g w10.heap.size 2 100 _ (by omega) (by omega) (by have := HL10.out; have := HEB.out; omega) HS1.out HT1.out).mono ?_
      rintro e w11 ⟨⟨t11, rfl, ht11⟩, hS, hg⟩
      replace HEP := hid_intro ((HEP.out.grown (World.grownBy_alloc w10 (.cells (List.map Value.string [⟨#[]⟩, ⟨#[65]⟩]).toArray 9) none) (by simp)).grown hg (by have := HEB.out; simp; omega))
      replace HZP := hid_intro ((HZP.out.grown (World.grownBy_alloc w10 (.cells (List.map Value.string [⟨#[]⟩, ⟨#[65]⟩]).toArray 9) none) (by simp)).grown hg (by simp; omega))
      replace HGP := hid_intro (Lib.grownBy_trans (Lib.grownBy_trans HGP.out (World.grownBy_alloc w10 (.cells (List.map Value.string [⟨#[]⟩, ⟨#[65]⟩]).toArray 9) (some g))) hg)
      replace HSP := hid_intro hS
      have Ht11 := hid_intro ht11
      clear hS hg HS1 HT1 ht11
      obtain ⟨be, ⟨x0, x1, x2, x3, x4, x5⟩, xf⟩ := HEP.out
      obtain ⟨bz, zz⟩ := HZP.out
      have z0 : w11.cell? ⟨w.heap.size, 0, none⟩ = some (.string ⟨#[]⟩) := (zz 0 (by omega)).1
      have z1 : w11.cell? ⟨w.heap.size, 1, none⟩ = some (.string ⟨#[]⟩) := (zz 1 (by omega)).1
      have z2 : w11.cell? ⟨w.heap.size, 2, none⟩ = some (.string ⟨#[]⟩) := (zz 2 (by omega)).1
      have z3 : w11.cell? ⟨w.heap.size, 3, none⟩ = some (.int .i64 0) := (zz 3 (by omega)).1
      have z4 : w11.cell? ⟨w.heap.size, 4, none⟩ = some (.int .i64 0) := (zz 4 (by omega)).1
      have z5 : w11.cell? ⟨w.heap.size, 5, none⟩ = some (.string ⟨#[]⟩) := (zz 5 (by omega)).1
      have y0 := (zz 0 (by omega)).2
      have y1 := (zz 1 (by omega)).2
      have y2 := (zz 2 (by omega)).2
      have y3 := (zz 3 (by omega)).2
      have y4 := (zz 4 (by omega)).2
      have y5 := (zz 5 (by omega)).2
      have xf0 := xf 0 (by omega)
      have xf1 := xf 1 (by omega)
      have xf2 := xf 2 (by omega)
      have xf3 := xf 3 (by omega)
      have xf4 := xf 4 (by omega)
      have xf5 := xf 5 (by omega)
      have hEB := HEB.out
      clear zz xf
      have HSE := hid_intro (src_set HSP.out (X := w8.heap.size) (by omega) 1 (.string t11))
      have HGE := hid_intro (set_new HGP.out (X := w8.heap.size) (by omega) 1 (.string t11))
      go_wp2_with fail
      refine bodyPost_ret (v := ev t1 t11 t3 nn v7 t8) (by simp [ev, results, Try.results18, go_sem, z0, z1, z2, z3, z4, z5]) rfl ⟨⟨t1, t11, t3, nn, v7, t8, rfl, Ht1.out, Ht11.out, Ht3.out, Ht8.out⟩, ?_, ?_⟩
      · exact src_set (src_set (src_set (src_set (src_set (src_set HSE.out (by omega) _ _) (by omega) _ _) (by omega) _ _) (by omega) _ _) (by omega) _ _) (by omega) _ _
      · exact set_new (set_new (set_new (set_new (set_new (set_new HGE.out (Nat.le_refl _) _ _) (Nat.le_refl _) _ _) (Nat.le_refl _) _ _) (Nat.le_refl _) _ _) (Nat.le_refl _) _ _) (Nat.le_refl _) _ _
    · go_wp2_with fail
      have HS1 := hid_intro (HSP.out.alloc (.cells (List.map Value.string [⟨#[32]⟩, ⟨#[49, 50, 51, 52, 53, 54, 55, 56, 57, 48, 49]⟩]).toArray 9))
      have HT1 := hid_intro (strs_new w10 [⟨#[32]⟩, ⟨#[49, 50, 51, 52, 53, 54, 55, 56, 57, 48, 49]⟩] 100 9 (by decide))
      refine (pick_any ao len cap g w10.heap.size 2 100 _ (by omega) (by omega) (by have := HL10.out; have := HEB.out; omega) HS1.out HT1.out).mono ?_
      rintro e w11 ⟨⟨t11, rfl, ht11⟩, hS, hg⟩
      replace HEP := hid_intro ((HEP.out.grown (World.grownBy_alloc w10 (.cells (List.map Value.string [⟨#[32]⟩, ⟨#[49, 50, 51, 52, 53, 54, 55, 56, 57, 48, 49]⟩]).toArray 9) none) (by simp)).grown hg (by have := HEB.out; simp; omega))
      replace HZP := hid_intro ((HZP.out.grown (World.grownBy_alloc w10 (.cells (List.map Value.string [⟨#[32]⟩, ⟨#[49, 50, 51, 52, 53, 54, 55, 56, 57, 48, 49]⟩]).toArray 9) none) (by simp)).grown hg (by simp; omega))
      replace HGP := hid_intro (Lib.grownBy_trans (Lib.grownBy_trans HGP.out (World.grownBy_alloc w10 (.cells (List.map Value.string [⟨#[32]⟩, ⟨#[49, 50, 51, 52, 53, 54, 55, 56, 57, 48, 49]⟩]).toArray 9) (some g))) hg)
      replace HSP := hid_intro hS
      have Ht11 := hid_intro ht11
      clear hS hg HS1 HT1 ht11
      obtain ⟨be, ⟨x0, x1, x2, x3, x4, x5⟩, xf⟩ := HEP.out
      obtain ⟨bz, zz⟩ := HZP.out
      have z0 : w11.cell? ⟨w.heap.size, 0, none⟩ = some (.string ⟨#[]⟩) := (zz 0 (by omega)).1
      have z1 : w11.cell? ⟨w.heap.size, 1, none⟩ = some (.string ⟨#[]⟩) := (zz 1 (by omega)).1
      have z2 : w11.cell? ⟨w.heap.size, 2, none⟩ = some (.string ⟨#[]⟩) := (zz 2 (by omega)).1
      have z3 : w11.cell? ⟨w.heap.size, 3, none⟩ = some (.int .i64 0) := (zz 3 (by omega)).1
      have z4 : w11.cell? ⟨w.heap.size, 4, none⟩ = some (.int .i64 0) := (zz 4 (by omega)).1
      have z5 : w11.cell? ⟨w.heap.size, 5, none⟩ = some (.string ⟨#[]⟩) := (zz 5 (by omega)).1
      have y0 := (zz 0 (by omega)).2
      have y1 := (zz 1 (by omega)).2
      have y2 := (zz 2 (by omega)).2
      have y3 := (zz 3 (by omega)).2
      have y4 := (zz 4 (by omega)).2
      have y5 := (zz 5 (by omega)).2
      have xf0 := xf 0 (by omega)
      have xf1 := xf 1 (by omega)
      have xf2 := xf 2 (by omega)
      have xf3 := xf 3 (by omega)
      have xf4 := xf 4 (by omega)
      have xf5 := xf 5 (by omega)
      have hEB := HEB.out
      clear zz xf
      have HSE := hid_intro (src_set HSP.out (X := w8.heap.size) (by omega) 5 (.string t11))
      have HGE := hid_intro (set_new HGP.out (X := w8.heap.size) (by omega) 5 (.string t11))
      go_wp2_with fail
      refine bodyPost_ret (v := ev t1 t2 t3 nn v7 t11) (by simp [ev, results, Try.results18, go_sem, z0, z1, z2, z3, z4, z5]) rfl ⟨⟨t1, t2, t3, nn, v7, t11, rfl, Ht1.out, Ht2.out, Ht3.out, Ht11.out⟩, ?_, ?_⟩
      · exact src_set (src_set (src_set (src_set (src_set (src_set HSE.out (by omega) _ _) (by omega) _ _) (by omega) _ _) (by omega) _ _) (by omega) _ _) (by omega) _ _
      · exact set_new (set_new (set_new (set_new (set_new (set_new HGE.out (Nat.le_refl _) _ _) (Nat.le_refl _) _ _) (Nat.le_refl _) _ _) (Nat.le_refl _) _ _) (Nat.le_refl _) _ _) (Nat.le_refl _) _ _
end DrawR
end Go.Proofs.Ytbhabplchcigfaa
