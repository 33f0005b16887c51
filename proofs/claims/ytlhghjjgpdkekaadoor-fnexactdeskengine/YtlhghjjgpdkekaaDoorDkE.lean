/-
  DeskEngine, on both sides: one and the same engine, all of it one's own. The condition: the program's variable holds its error.
-/
import Derived.Test.YtlhghjjgpdkekaaDoorDkC
import Derived.Test.YtlhghjjgpdkekaaDoorEgV
import Derived.Test.YtlhghjjgpdkekaaDoorMemo
namespace Go.Proofs.YtlhghjjgpdkekaaDoor
open Go.ChangeShapes Go.WideShapes Go.ChangeAt Go.RowKit
set_option linter.unusedVariables false
set_option linter.unusedSimpArgs false
namespace EngR
open OwG CatR StxR ChG DeskC MemoR
open RowG (cellsAll)
open DocR (BlkW)
theorem blk_gr {b g : Nat} {cs : List Value} {w w' : World} (h : Blk b cs w) (hg : w.grownBy w' (some g)) (hne : b ≠ g) : Blk b cs w' := by
  have eb := hg.block b h.1 (by simp; exact hne)
  exact ⟨Nat.lt_of_lt_of_le h.1 hg.size, fun i hi => (World.cell?_of_block (a := ⟨b, i, none⟩) eb).trans (h.2 i hi)⟩
/-- The desk's sources. -/
def dns : List ByteArray := [(⟨#[101, 97, 115, 116]⟩ : ByteArray), ⟨#[119, 101, 115, 116]⟩]
theorem fldE (v0 v1 v2 v3 v4 v5 v6 v7 v8 v9 va vb vc vd : Value) (W : World) : (Instr.field 43 (.agg #[v0, v1, v2, v3, v4, v5, v6, v7, v8, v9, va, vb, vc, vd]) 0).run Tryd.prog W = .ok (.agg #[v0, v1, v2, v3, v4, v5, v6]) W := by kernel_rfl
/-- An engine, all of it one's own. -/
def EdO (base : Nat) (v : Value) (c : Ca) (ns : List ByteArray) (W : World) : Prop := ∃ vm va cp sa sc, v = .agg #[vm, .slice va c.cs.length cp, .slice sa ns.length sc, .slice none 0 0, .slice none 0 0, .slice none 0 0, .int .i64 0] ∧ MsO base vm c.ms W ∧ W.ownsRow base 59 2 (.slice va c.cs.length cp) c.cs.length (cellsAll Cr.cells c.cs) ∧ W.ownsRow base 62 2 (.slice sa ns.length sc) ns.length (cellsAll scells ns)
/-- An engine that reads so. -/
def EdR (v : Value) (c : Ca) (ns : List ByteArray) (W : World) : Prop := ∃ ma mc ca cc sa sc, v = .agg #[.slice ma c.ms.length mc, .slice ca c.cs.length cc, .slice sa ns.length sc, .slice none 0 0, .slice none 0 0, .slice none 0 0, .int .i64 0] ∧ Mes ma c.ms.length c.ms W ∧ Crs ca c.cs.length c.cs W ∧ Crs sa ns.length (srC ns) W
theorem EdR.below {v : Value} {c : Ca} {ns : List ByteArray} {W W' : World} (h : EdR v c ns W) (hb : Below W.heap.size W W') : EdR v c ns W' := by
  obtain ⟨ma, mc, ca, cc, sa, sc, rfl, h1, h2, h3⟩ := h
  exact ⟨ma, mc, ca, cc, sa, sc, rfl, h1.below hb, h2.below hb, h3.below hb⟩
theorem EdO.reads {base : Nat} {v : Value} {c : Ca} {ns : List ByteArray} {W : World} (h : EdO base v c ns W) : EdR v c ns W := by
  obtain ⟨vm, va, cp, sa, sc, rfl, h1, h2, h3⟩ := h
  obtain ⟨ma, mc, rfl, hm⟩ := h1.mes
  obtain ⟨ao, cap, e, h4⟩ := RowG.own_made (z := tz) s_len h3
  cases e
  exact ⟨ma, mc, va, cp, sa, sc, rfl, hm, own_crs h2 rfl, srs_crs h4.rws⟩
theorem tgs_new (w : World) : Tgs (some ⟨w.heap.size, 0, none⟩) dns (w.alloc (.cells #[.string ⟨#[101, 97, 115, 116]⟩, .string ⟨#[119, 101, 115, 116]⟩] 9)) := by
  refine .inr ⟨w.heap.size, 0, rfl, by simp, fun j hj i hi => ?_⟩
  have h2 : j < 2 := hj
  obtain rfl : i = 0 := by omega
  rcases (show j = 0 ∨ j = 1 by omega) with rfl | rfl
  · simp [go_sem, dns, tcells]
  · simp [go_sem, dns, tcells]
set_option maxRecDepth 100000 in
set_option maxHeartbeats 8000000 in
theorem ideskE (w : World) (hL : Laid w) : Calls Tryd.prog 5 #[] w fun e w' => ∃ v, e = .returned v ∧ EdO w.heap.size v (enA deskCa dns) (enS deskCa dns) w' ∧ Below w.heap.size w w' := by
  have HN : Hid (∀ (ma ca na : Option Addr) (mc cc : Nat) W, Below w.heap.size w W → Mes ma 3 deskCa.ms W → (∃ b, ca = some ⟨b, 0, none⟩) → Crs ca 1 deskCa.cs W → Tgs na dns W → Calls Tryd.prog 11 #[.agg #[.slice ma 3 mc, .slice ca 1 cc], .slice na 2 2] W fun e w' => EnO W (enA deskCa dns) (enS deskCa dns) (enC deskCa dns) e w') := hid_intro (fun ma ca na mc cc W hW h1 hca h2 h3 => by
    obtain ⟨b, rfl⟩ := hca
    exact iengine ma _ na mc cc 2 deskCa dns W desk_small h1 h2 (by decide) (fun e he => by simp only [dns, List.mem_cons, List.not_mem_nil, or_false] at he; rcases he with rfl | rfl <;> decide) h3 (hL.below hW))
  generalize enA deskCa dns = EA at *
  generalize enS deskCa dns = ES at *
  generalize enC deskCa dns = EC at *
  obtain ⟨W1, hW1⟩ : ∃ z, z = w.alloc (.cells #[.slice none 0 0, .slice none 0 0, .slice none 0 0, .slice none 0 0, .slice none 0 0, .slice none 0 0, .int .i64 0] 31) := ⟨_, rfl⟩
  have HB1 : Hid (Below w.heap.size w W1) := hid_intro (by rw [hW1]; exact (Below.refl _ _).alloc (Nat.le_refl _) _)
  have HR1 : Hid (BlkW w.heap.size [.slice none 0 0, .slice none 0 0, .slice none 0 0, .slice none 0 0, .slice none 0 0, .slice none 0 0, .int .i64 0] W1) := hid_intro (by rw [hW1]; exact BlkW.new w [.slice none 0 0, .slice none 0 0, .slice none 0 0, .slice none 0 0, .slice none 0 0, .slice none 0 0, .int .i64 0] 31)
  obtain ⟨bR, hbR⟩ : ∃ z, z = w.heap.size := ⟨_, rfl⟩
  rw [← hbR] at HR1
  have HW := hid_intro hW1
  have HBR := hid_intro hbR
  have hfld := fldE
  clear hW1 hbR
  clear hL
  go_enter Tryd.func5, Tryd.ntmps5
  go_wp2_with fail
  rw [← HW.out, ← HBR.out]
  clear HW
  refine (idesk _).mono ?_
  rintro e w2 ⟨a, b, p, q, r, rfl, hl⟩
  have hb := hl.2.2.2.2.2
  have HB2 := hid_intro (HB1.out.trans (hb.mono HB1.out.size))
  have HR2 := hid_intro (HR1.out.below hb)
  have HM2 := hid_intro hl.mes.1
  have HC2 := hid_intro hl.mes.2
  clear hl hb HB1 HR1
  obtain ⟨V, hV⟩ : ∃ z, z = w2.alloc (.cells #[.string ⟨#[101, 97, 115, 116]⟩, .string ⟨#[119, 101, 115, 116]⟩] 9) := ⟨_, rfl⟩
  have hal : Below w2.heap.size w2 V := by rw [hV]; exact (Below.refl _ _).alloc (Nat.le_refl _) _
  have HTv : Hid (Tgs (some ⟨w2.heap.size, 0, none⟩) dns V) := hid_intro (by rw [hV]; exact tgs_new w2)
  have HBv := hid_intro (HB2.out.trans (hal.mono HB2.out.size))
  have HRv := hid_intro (HR2.out.below hal)
  have HMv := hid_intro (HM2.out.below hal)
  have HCv := hid_intro (HC2.out.below hal)
  have HV := hid_intro hV
  clear hV hal HB2 HR2 HM2 HC2
  go_wp2_with fail
  rw [← HV.out]
  clear HV
  refine (HN.out _ _ _ _ _ _ HBv.out HMv.out ⟨_, rfl⟩ HCv.out HTv.out).mono ?_
  rintro e w4 ⟨vm, va, cp, sa, sc, rfl, h1, h2, h3, hb⟩
  have HB4 := hid_intro (HBv.out.trans (hb.mono HBv.out.size))
  have HR4 := hid_intro (HRv.out.below hb)
  have hlo : bR < V.heap.size := HRv.out.1.1
  have HM4 := hid_intro (h1.low (show bR + 1 ≤ _ from hlo))
  have HC4 := hid_intro (own_low h2 (show bR + 1 ≤ _ from hlo))
  have HS4 := hid_intro (own_low h3 (show bR + 1 ≤ _ from hlo))
  clear h1 h2 h3 hb HBv HRv HMv HCv HTv HN
  obtain ⟨ma, mc, rfl, _⟩ := HM4.out.mes
  obtain ⟨ml, hml⟩ : ∃ n, n = EA.ms.length := ⟨_, rfl⟩
  obtain ⟨cl, hcl⟩ : ∃ n, n = EA.cs.length := ⟨_, rfl⟩
  obtain ⟨sl, hsl⟩ : ∃ n, n = ES.length := ⟨_, rfl⟩
  rw [← hml] at HM4
  rw [← hcl] at HC4
  rw [← hsl] at HS4
  have HML := hid_intro hml
  have HCL := hid_intro hcl
  have HSL := hid_intro hsl
  rw [← hml, ← hcl, ← hsl]
  clear hml hcl hsl
  obtain ⟨⟨rl, rk⟩, rf⟩ := HR4.out
  have p0 : w4.cell? ⟨bR, 0, none⟩ = some (.slice none 0 0) := rk 0 (by simp)
  have f0 : w4.frozen? ⟨bR, 0, none⟩ = false := rf 0 (by simp)
  have p1 : w4.cell? ⟨bR, 1, none⟩ = some (.slice none 0 0) := rk 1 (by simp)
  have f1 : w4.frozen? ⟨bR, 1, none⟩ = false := rf 1 (by simp)
  have p2 : w4.cell? ⟨bR, 2, none⟩ = some (.slice none 0 0) := rk 2 (by simp)
  have f2 : w4.frozen? ⟨bR, 2, none⟩ = false := rf 2 (by simp)
  have p3 : w4.cell? ⟨bR, 3, none⟩ = some (.slice none 0 0) := rk 3 (by simp)
  have f3 : w4.frozen? ⟨bR, 3, none⟩ = false := rf 3 (by simp)
  have p4 : w4.cell? ⟨bR, 4, none⟩ = some (.slice none 0 0) := rk 4 (by simp)
  have f4 : w4.frozen? ⟨bR, 4, none⟩ = false := rf 4 (by simp)
  have p5 : w4.cell? ⟨bR, 5, none⟩ = some (.slice none 0 0) := rk 5 (by simp)
  have f5 : w4.frozen? ⟨bR, 5, none⟩ = false := rf 5 (by simp)
  have p6 : w4.cell? ⟨bR, 6, none⟩ = some (.int .i64 0) := rk 6 (by simp)
  have f6 : w4.frozen? ⟨bR, 6, none⟩ = false := rf 6 (by simp)
  have hg := StR.stL_grown bR [.slice ma ml mc, .slice va cl cp, .slice sa sl sc, .slice none 0 0, .slice none 0 0, .slice none 0 0, .int .i64 0] 0 w4
  have HB9 := hid_intro (HB4.out.grown hg HB4.out.size (fun _ e => by cases e; have := HBR.out; omega))
  have HM9 := hid_intro (HM4.out.far hg (by omega))
  have HC9 := hid_intro (own_keepG HC4.out hg (by omega))
  have HS9 := hid_intro (own_keepG HS4.out hg (by omega))
  simp only [StR.stL, Nat.zero_add] at HB9 HM9 HC9 HS9
  clear rk rf hg HB4 HR4 HM4 HC4 HS4
  go_wp2_with fail
  refine bodyPost_ret (v := .agg #[.slice ma ml mc, .slice va cl cp, .slice sa sl sc, .slice none 0 0, .slice none 0 0, .slice none 0 0, .int .i64 0]) (by simp [results, Tryd.results5, go_sem, p0, p1, p2, p3, p4, p5, p6]) rfl ⟨_, rfl, ⟨.slice ma ml mc, va, cp, sa, sc, by rw [← HCL.out, ← HSL.out], HM9.out.low (by have := HBR.out; omega), ?_, ?_⟩, HB9.out⟩
  · rw [← HCL.out]
    exact own_low HC9.out (by have := HBR.out; omega)
  · rw [← HSL.out]
    exact own_low HS9.out (by have := HBR.out; omega)
set_option maxRecDepth 100000 in
set_option maxHeartbeats 8000000 in
theorem sdeskE (w : World) : Calls Tryd.prog 4 #[] w fun e w' => ∃ v, e = .returned v ∧ EdO w.heap.size v (enA deskCa dns) (enS deskCa dns) w' ∧ Below w.heap.size w w' := by
  have HN : Hid (∀ (ma ca na : Option Addr) (mc cc : Nat) W, Below w.heap.size w W → Mes ma 3 deskCa.ms W → (∃ b, ca = some ⟨b, 0, none⟩) → Crs ca 1 deskCa.cs W → Tgs na dns W → Calls Tryd.prog 10 #[.agg #[.slice ma 3 mc, .slice ca 1 cc], .slice na 2 2] W fun e w' => EnO W (enA deskCa dns) (enS deskCa dns) (enC deskCa dns) e w') := hid_intro (fun ma ca na mc cc W hW h1 hca h2 h3 => by
    obtain ⟨b, rfl⟩ := hca
    exact sengine ma na mc b 0 cc 2 deskCa dns W desk_small h1 h2 (by decide) (fun e he => by simp only [dns, List.mem_cons, List.not_mem_nil, or_false] at he; rcases he with rfl | rfl <;> decide) h3)
  generalize enA deskCa dns = EA at *
  generalize enS deskCa dns = ES at *
  generalize enC deskCa dns = EC at *
  obtain ⟨W1, hW1⟩ : ∃ z, z = w.alloc (.cells #[.slice none 0 0, .slice none 0 0, .slice none 0 0, .slice none 0 0, .slice none 0 0, .slice none 0 0, .int .i64 0] 31) := ⟨_, rfl⟩
  have HB1 : Hid (Below w.heap.size w W1) := hid_intro (by rw [hW1]; exact (Below.refl _ _).alloc (Nat.le_refl _) _)
  have HR1 : Hid (BlkW w.heap.size [.slice none 0 0, .slice none 0 0, .slice none 0 0, .slice none 0 0, .slice none 0 0, .slice none 0 0, .int .i64 0] W1) := hid_intro (by rw [hW1]; exact BlkW.new w [.slice none 0 0, .slice none 0 0, .slice none 0 0, .slice none 0 0, .slice none 0 0, .slice none 0 0, .int .i64 0] 31)
  obtain ⟨bR, hbR⟩ : ∃ z, z = w.heap.size := ⟨_, rfl⟩
  rw [← hbR] at HR1
  have HW := hid_intro hW1
  have HBR := hid_intro hbR
  have hfld := fldE
  clear hW1 hbR
  go_enter Tryd.func4, Tryd.ntmps4
  go_wp2_with fail
  rw [← HW.out, ← HBR.out]
  clear HW
  refine (splain _).mono ?_
  rintro e w2 ⟨a, b, p, q, n, r, rfl, h0, h1, h2, h3, h4, hb⟩
  have HB2 := hid_intro (HB1.out.trans (hb.mono HB1.out.size))
  have HR2 := hid_intro (HR1.out.below hb)
  have HX := hid_intro h0
  obtain ⟨h0l, h0c⟩ := h0
  have m0 : w2.cell? ⟨a, 0, none⟩ = some (.string ⟨#[99, 112, 117]⟩) := h0c 0 (by simp)
  have m1 : w2.cell? ⟨a, 1, none⟩ = some (.int .i64 1) := h0c 1 (by simp)
  have m2 : w2.cell? ⟨a, 2, none⟩ = some (.bool false) := h0c 2 (by simp)
  have m3 : w2.cell? ⟨a, 3, none⟩ = some (.int .i64 10) := h0c 3 (by simp)
  have m4 : w2.cell? ⟨a, 4, none⟩ = some (.int .i64 0) := h0c 4 (by simp)
  have m5 : w2.cell? ⟨a, 5, none⟩ = some (.slice (some ⟨p, 0, none⟩) 2 2) := h0c 5 (by simp)
  have m6 : w2.cell? ⟨a, 6, none⟩ = some (.string ⟨#[100, 105, 115, 107]⟩) := h0c 6 (by simp)
  have m7 : w2.cell? ⟨a, 7, none⟩ = some (.int .i64 2) := h0c 7 (by simp)
  have m8 : w2.cell? ⟨a, 8, none⟩ = some (.bool true) := h0c 8 (by simp)
  have m9 : w2.cell? ⟨a, 9, none⟩ = some (.int .i64 0) := h0c 9 (by simp)
  have m10 : w2.cell? ⟨a, 10, none⟩ = some (.int .i64 500) := h0c 10 (by simp)
  have m11 : w2.cell? ⟨a, 11, none⟩ = some (.slice (some ⟨q, 0, none⟩) 3 3) := h0c 11 (by simp)
  have m12 : w2.cell? ⟨a, 12, none⟩ = some (.string ⟨#[110, 101, 116]⟩) := h0c 12 (by simp)
  have m13 : w2.cell? ⟨a, 13, none⟩ = some (.int .i64 4) := h0c 13 (by simp)
  have m14 : w2.cell? ⟨a, 14, none⟩ = some (.bool false) := h0c 14 (by simp)
  have m15 : w2.cell? ⟨a, 15, none⟩ = some (.int .i64 0) := h0c 15 (by simp)
  have m16 : w2.cell? ⟨a, 16, none⟩ = some (.int .i64 0) := h0c 16 (by simp)
  have m17 : w2.cell? ⟨a, 17, none⟩ = some (.slice (some ⟨n, 0, none⟩) 1 1) := h0c 17 (by simp)
  have m18 : w2.cell? ⟨a, 18, none⟩ = some (.string ⟨#[117, 115, 101, 114, 115]⟩) := h0c 18 (by simp)
  have m19 : w2.cell? ⟨a, 19, none⟩ = some (.int .i64 3) := h0c 19 (by simp)
  have m20 : w2.cell? ⟨a, 20, none⟩ = some (.bool false) := h0c 20 (by simp)
  have m21 : w2.cell? ⟨a, 21, none⟩ = some (.int .i64 0) := h0c 21 (by simp)
  have m22 : w2.cell? ⟨a, 22, none⟩ = some (.int .i64 0) := h0c 22 (by simp)
  have m23 : w2.cell? ⟨a, 23, none⟩ = some (.slice (some ⟨r, 0, none⟩) 1 1) := h0c 23 (by simp)
  have HL2 := hid_intro (And.intro h1 (And.intro h2 (And.intro h3 h4)))
  clear h0c h1 h2 h3 h4 hb HB1 HR1
  obtain ⟨k1, hk1⟩ : ∃ z, z = (w2.alloc (.cells #[.slice (some ⟨a, 0, none⟩) 4 4, .slice (some ⟨b, 0, none⟩) 1 1] 25)).drew := ⟨_, rfl⟩
  have a1 : Below w2.heap.size w2 k1 := by rw [hk1]; exact ((Below.refl _ _).alloc (Nat.le_refl _) _).drew
  have HX1 : Hid (BlkW w2.heap.size [.slice (some ⟨a, 0, none⟩) 4 4, .slice (some ⟨b, 0, none⟩) 1 1] k1) := hid_intro (by rw [hk1]; exact BlkW.new w2 [.slice (some ⟨a, 0, none⟩) 4 4, .slice (some ⟨b, 0, none⟩) 1 1] 25)
  obtain ⟨bX, hbX⟩ : ∃ z, z = w2.heap.size := ⟨_, rfl⟩
  rw [← hbX] at HX1
  have hlo2 : bR < bX := by have := HR2.out.1.1; omega
  have hB0 := HB2.out.trans (a1.mono HB2.out.size)
  have hR0 := HR2.out.below a1
  have hP0 := HL2.out.1.below a1
  have hQ0 := HL2.out.2.1.below a1
  have hT0 := HL2.out.2.2.1.below a1
  have hC0 := HL2.out.2.2.2.below a1
  have hX0 := HX1.out
  have hA0 := HX.out.below a1
  have HLTS := hid_intro (And.intro HX.out.1 (And.intro HL2.out.1.1 (And.intro HL2.out.2.1.1 (And.intro HL2.out.2.2.1.1 HL2.out.2.2.2.1))))
  rw [← hbX] at HLTS
  have hlow : w.heap.size ≤ bX := by have := HB2.out.size; omega
  have K1 := hid_intro hk1
  have KX := hid_intro hbX
  clear HB2 HR2 HL2 HX HX1 a1 hbX hk1
  have HSS : Hid (∀ W, Blk a [.string ⟨#[99, 112, 117]⟩, .int .i64 1, .bool false, .int .i64 10, .int .i64 0, .slice (some ⟨p, 0, none⟩) 2 2, .string ⟨#[100, 105, 115, 107]⟩, .int .i64 2, .bool true, .int .i64 0, .int .i64 500, .slice (some ⟨q, 0, none⟩) 3 3, .string ⟨#[110, 101, 116]⟩, .int .i64 4, .bool false, .int .i64 0, .int .i64 0, .slice (some ⟨n, 0, none⟩) 1 1, .string ⟨#[117, 115, 101, 114, 115]⟩, .int .i64 3, .bool false, .int .i64 0, .int .i64 0, .slice (some ⟨r, 0, none⟩) 1 1] W → (fun W => a < W.heap.size ∧ W.cell? ⟨a, 0, none⟩ = some (.string ⟨#[99, 112, 117]⟩) ∧ W.cell? ⟨a, 1, none⟩ = some (.int .i64 1) ∧ W.cell? ⟨a, 2, none⟩ = some (.bool false) ∧ W.cell? ⟨a, 3, none⟩ = some (.int .i64 10) ∧ W.cell? ⟨a, 4, none⟩ = some (.int .i64 0) ∧ W.cell? ⟨a, 5, none⟩ = some (.slice (some ⟨p, 0, none⟩) 2 2) ∧ W.cell? ⟨a, 6, none⟩ = some (.string ⟨#[100, 105, 115, 107]⟩) ∧ W.cell? ⟨a, 7, none⟩ = some (.int .i64 2) ∧ W.cell? ⟨a, 8, none⟩ = some (.bool true) ∧ W.cell? ⟨a, 9, none⟩ = some (.int .i64 0) ∧ W.cell? ⟨a, 10, none⟩ = some (.int .i64 500) ∧ W.cell? ⟨a, 11, none⟩ = some (.slice (some ⟨q, 0, none⟩) 3 3) ∧ W.cell? ⟨a, 18, none⟩ = some (.string ⟨#[117, 115, 101, 114, 115]⟩) ∧ W.cell? ⟨a, 19, none⟩ = some (.int .i64 3) ∧ W.cell? ⟨a, 20, none⟩ = some (.bool false) ∧ W.cell? ⟨a, 21, none⟩ = some (.int .i64 0) ∧ W.cell? ⟨a, 22, none⟩ = some (.int .i64 0) ∧ W.cell? ⟨a, 23, none⟩ = some (.slice (some ⟨r, 0, none⟩) 1 1)) W) := hid_intro (fun W hA => ⟨hA.1, hA.2 0 (by simp), hA.2 1 (by simp), hA.2 2 (by simp), hA.2 3 (by simp), hA.2 4 (by simp), hA.2 5 (by simp), hA.2 6 (by simp), hA.2 7 (by simp), hA.2 8 (by simp), hA.2 9 (by simp), hA.2 10 (by simp), hA.2 11 (by simp), hA.2 18 (by simp), hA.2 19 (by simp), hA.2 20 (by simp), hA.2 21 (by simp), hA.2 22 (by simp), hA.2 23 (by simp)⟩)
  have hS0 := HSS.out _ hA0
  go_wp2_with fail
  rw [← KX.out]
  have hS1 := hS0
  rw [K1.out] at hS1
  refine wp_region_held_drew (S := (fun W => a < W.heap.size ∧ W.cell? ⟨a, 0, none⟩ = some (.string ⟨#[99, 112, 117]⟩) ∧ W.cell? ⟨a, 1, none⟩ = some (.int .i64 1) ∧ W.cell? ⟨a, 2, none⟩ = some (.bool false) ∧ W.cell? ⟨a, 3, none⟩ = some (.int .i64 10) ∧ W.cell? ⟨a, 4, none⟩ = some (.int .i64 0) ∧ W.cell? ⟨a, 5, none⟩ = some (.slice (some ⟨p, 0, none⟩) 2 2) ∧ W.cell? ⟨a, 6, none⟩ = some (.string ⟨#[100, 105, 115, 107]⟩) ∧ W.cell? ⟨a, 7, none⟩ = some (.int .i64 2) ∧ W.cell? ⟨a, 8, none⟩ = some (.bool true) ∧ W.cell? ⟨a, 9, none⟩ = some (.int .i64 0) ∧ W.cell? ⟨a, 10, none⟩ = some (.int .i64 500) ∧ W.cell? ⟨a, 11, none⟩ = some (.slice (some ⟨q, 0, none⟩) 3 3) ∧ W.cell? ⟨a, 18, none⟩ = some (.string ⟨#[117, 115, 101, 114, 115]⟩) ∧ W.cell? ⟨a, 19, none⟩ = some (.int .i64 3) ∧ W.cell? ⟨a, 20, none⟩ = some (.bool false) ∧ W.cell? ⟨a, 21, none⟩ = some (.int .i64 0) ∧ W.cell? ⟨a, 22, none⟩ = some (.int .i64 0) ∧ W.cell? ⟨a, 23, none⟩ = some (.slice (some ⟨r, 0, none⟩) 1 1))) (by kernel_rfl) hS1 (fun hHeld => ?_)
  clear hS1
  rw [← K1.out]
  clear K1
  apply memo1 (fun bN W => (Below w.heap.size w W) ∧ (BlkW bR [.slice none 0 0, .slice none 0 0, .slice none 0 0, .slice none 0 0, .slice none 0 0, .slice none 0 0, .int .i64 0] W) ∧ (Blk p [.int .i64 100, .int .i64 50, .int .i64 1000000000000, .int .i64 20] W) ∧ (Blk q [.int .i64 50, .int .i64 9, .int .i64 200, .int .i64 7, .int .i64 1000000000000, .int .i64 5] W) ∧ (Blk r [.int .i64 1000000000000, .int .i64 1000] W) ∧ (Blk b [.string ⟨#[97, 110, 110]⟩, .int .i64 3000] W) ∧ (Blk a [.string ⟨#[99, 112, 117]⟩, .int .i64 1, .bool false, .int .i64 10, .int .i64 0, .slice (some ⟨p, 0, none⟩) 2 2, .string ⟨#[100, 105, 115, 107]⟩, .int .i64 2, .bool true, .int .i64 0, .int .i64 500, .slice (some ⟨q, 0, none⟩) 3 3, .string ⟨#[110, 101, 116]⟩, .int .i64 4, .bool false, .int .i64 0, .int .i64 0, .slice (some ⟨n, 0, none⟩) 1 1, .string ⟨#[117, 115, 101, 114, 115]⟩, .int .i64 3, .bool false, .int .i64 0, .int .i64 0, .slice (some ⟨r, 0, none⟩) 1 1] W) ∧ (BlkW bX [.slice (some ⟨a, 0, none⟩) 4 4, .slice (some ⟨b, 0, none⟩) 1 1] W) ∧ (Blk bN [.string ⟨#[99, 112, 117]⟩, .int .i64 1, .bool false, .int .i64 10, .int .i64 0, .slice (some ⟨p, 0, none⟩) 2 2, .string ⟨#[100, 105, 115, 107]⟩, .int .i64 2, .bool true, .int .i64 0, .int .i64 500, .slice (some ⟨q, 0, none⟩) 3 3, .string ⟨#[117, 115, 101, 114, 115]⟩, .int .i64 3, .bool false, .int .i64 0, .int .i64 0, .slice (some ⟨r, 0, none⟩) 1 1] W) ∧ (bX < bN) ∧ True)
  intro N1_5_9_12
  apply memo0 (fun  W => (Below w.heap.size w W) ∧ (BlkW bR [.slice none 0 0, .slice none 0 0, .slice none 0 0, .slice none 0 0, .slice none 0 0, .slice none 0 0, .int .i64 0] W) ∧ (Blk p [.int .i64 100, .int .i64 50, .int .i64 1000000000000, .int .i64 20] W) ∧ (Blk q [.int .i64 50, .int .i64 9, .int .i64 200, .int .i64 7, .int .i64 1000000000000, .int .i64 5] W) ∧ (Blk r [.int .i64 1000000000000, .int .i64 1000] W) ∧ (Blk b [.string ⟨#[97, 110, 110]⟩, .int .i64 3000] W) ∧ (Blk a [.string ⟨#[99, 112, 117]⟩, .int .i64 1, .bool false, .int .i64 10, .int .i64 0, .slice (some ⟨p, 0, none⟩) 2 2, .string ⟨#[100, 105, 115, 107]⟩, .int .i64 2, .bool true, .int .i64 0, .int .i64 500, .slice (some ⟨q, 0, none⟩) 3 3, .string ⟨#[110, 101, 116]⟩, .int .i64 4, .bool false, .int .i64 0, .int .i64 0, .slice (some ⟨n, 0, none⟩) 1 1, .string ⟨#[117, 115, 101, 114, 115]⟩, .int .i64 3, .bool false, .int .i64 0, .int .i64 0, .slice (some ⟨r, 0, none⟩) 1 1] W) ∧ (BlkW bX [.slice (some ⟨a, 0, none⟩) 4 4, .slice (some ⟨b, 0, none⟩) 1 1] W) ∧ True)
  intro N1_5_9
  apply memo0 (fun  W => (Below w.heap.size w W) ∧ (BlkW bR [.slice none 0 0, .slice none 0 0, .slice none 0 0, .slice none 0 0, .slice none 0 0, .slice none 0 0, .int .i64 0] W) ∧ (Blk p [.int .i64 100, .int .i64 50, .int .i64 1000000000000, .int .i64 20] W) ∧ (Blk q [.int .i64 50, .int .i64 9, .int .i64 200, .int .i64 7, .int .i64 1000000000000, .int .i64 5] W) ∧ (Blk r [.int .i64 1000000000000, .int .i64 1000] W) ∧ (Blk b [.string ⟨#[97, 110, 110]⟩, .int .i64 3000] W) ∧ (Blk a [.string ⟨#[99, 112, 117]⟩, .int .i64 1, .bool false, .int .i64 10, .int .i64 0, .slice (some ⟨p, 0, none⟩) 2 2, .string ⟨#[100, 105, 115, 107]⟩, .int .i64 2, .bool true, .int .i64 0, .int .i64 500, .slice (some ⟨q, 0, none⟩) 3 3, .string ⟨#[110, 101, 116]⟩, .int .i64 4, .bool false, .int .i64 0, .int .i64 0, .slice (some ⟨n, 0, none⟩) 1 1, .string ⟨#[117, 115, 101, 114, 115]⟩, .int .i64 3, .bool false, .int .i64 0, .int .i64 0, .slice (some ⟨r, 0, none⟩) 1 1] W) ∧ (BlkW bX [.slice (some ⟨a, 0, none⟩) 4 4, .slice (some ⟨b, 0, none⟩) 1 1] W) ∧ True)
  intro N1_5
  apply memo0 (fun  W => (Below w.heap.size w W) ∧ (BlkW bR [.slice none 0 0, .slice none 0 0, .slice none 0 0, .slice none 0 0, .slice none 0 0, .slice none 0 0, .int .i64 0] W) ∧ (Blk p [.int .i64 100, .int .i64 50, .int .i64 1000000000000, .int .i64 20] W) ∧ (Blk q [.int .i64 50, .int .i64 9, .int .i64 200, .int .i64 7, .int .i64 1000000000000, .int .i64 5] W) ∧ (Blk r [.int .i64 1000000000000, .int .i64 1000] W) ∧ (Blk b [.string ⟨#[97, 110, 110]⟩, .int .i64 3000] W) ∧ (Blk a [.string ⟨#[99, 112, 117]⟩, .int .i64 1, .bool false, .int .i64 10, .int .i64 0, .slice (some ⟨p, 0, none⟩) 2 2, .string ⟨#[100, 105, 115, 107]⟩, .int .i64 2, .bool true, .int .i64 0, .int .i64 500, .slice (some ⟨q, 0, none⟩) 3 3, .string ⟨#[110, 101, 116]⟩, .int .i64 4, .bool false, .int .i64 0, .int .i64 0, .slice (some ⟨n, 0, none⟩) 1 1, .string ⟨#[117, 115, 101, 114, 115]⟩, .int .i64 3, .bool false, .int .i64 0, .int .i64 0, .slice (some ⟨r, 0, none⟩) 1 1] W) ∧ (BlkW bX [.slice (some ⟨a, 0, none⟩) 4 4, .slice (some ⟨b, 0, none⟩) 1 1] W) ∧ True)
  intro N1_9
  apply memo0 (fun  W => (Below w.heap.size w W) ∧ (BlkW bR [.slice none 0 0, .slice none 0 0, .slice none 0 0, .slice none 0 0, .slice none 0 0, .slice none 0 0, .int .i64 0] W) ∧ (Blk p [.int .i64 100, .int .i64 50, .int .i64 1000000000000, .int .i64 20] W) ∧ (Blk q [.int .i64 50, .int .i64 9, .int .i64 200, .int .i64 7, .int .i64 1000000000000, .int .i64 5] W) ∧ (Blk r [.int .i64 1000000000000, .int .i64 1000] W) ∧ (Blk b [.string ⟨#[97, 110, 110]⟩, .int .i64 3000] W) ∧ (Blk a [.string ⟨#[99, 112, 117]⟩, .int .i64 1, .bool false, .int .i64 10, .int .i64 0, .slice (some ⟨p, 0, none⟩) 2 2, .string ⟨#[100, 105, 115, 107]⟩, .int .i64 2, .bool true, .int .i64 0, .int .i64 500, .slice (some ⟨q, 0, none⟩) 3 3, .string ⟨#[110, 101, 116]⟩, .int .i64 4, .bool false, .int .i64 0, .int .i64 0, .slice (some ⟨n, 0, none⟩) 1 1, .string ⟨#[117, 115, 101, 114, 115]⟩, .int .i64 3, .bool false, .int .i64 0, .int .i64 0, .slice (some ⟨r, 0, none⟩) 1 1] W) ∧ (BlkW bX [.slice (some ⟨a, 0, none⟩) 4 4, .slice (some ⟨b, 0, none⟩) 1 1] W) ∧ True)
  intro N5_9
  apply memo0 (fun  W => (Below w.heap.size w W) ∧ (BlkW bR [.slice none 0 0, .slice none 0 0, .slice none 0 0, .slice none 0 0, .slice none 0 0, .slice none 0 0, .int .i64 0] W) ∧ (Blk p [.int .i64 100, .int .i64 50, .int .i64 1000000000000, .int .i64 20] W) ∧ (Blk q [.int .i64 50, .int .i64 9, .int .i64 200, .int .i64 7, .int .i64 1000000000000, .int .i64 5] W) ∧ (Blk r [.int .i64 1000000000000, .int .i64 1000] W) ∧ (Blk b [.string ⟨#[97, 110, 110]⟩, .int .i64 3000] W) ∧ (Blk a [.string ⟨#[99, 112, 117]⟩, .int .i64 1, .bool false, .int .i64 10, .int .i64 0, .slice (some ⟨p, 0, none⟩) 2 2, .string ⟨#[100, 105, 115, 107]⟩, .int .i64 2, .bool true, .int .i64 0, .int .i64 500, .slice (some ⟨q, 0, none⟩) 3 3, .string ⟨#[110, 101, 116]⟩, .int .i64 4, .bool false, .int .i64 0, .int .i64 0, .slice (some ⟨n, 0, none⟩) 1 1, .string ⟨#[117, 115, 101, 114, 115]⟩, .int .i64 3, .bool false, .int .i64 0, .int .i64 0, .slice (some ⟨r, 0, none⟩) 1 1] W) ∧ (BlkW bX [.slice (some ⟨a, 0, none⟩) 4 4, .slice (some ⟨b, 0, none⟩) 1 1] W) ∧ True)
  intro N1
  apply memo0 (fun  W => (Below w.heap.size w W) ∧ (BlkW bR [.slice none 0 0, .slice none 0 0, .slice none 0 0, .slice none 0 0, .slice none 0 0, .slice none 0 0, .int .i64 0] W) ∧ (Blk p [.int .i64 100, .int .i64 50, .int .i64 1000000000000, .int .i64 20] W) ∧ (Blk q [.int .i64 50, .int .i64 9, .int .i64 200, .int .i64 7, .int .i64 1000000000000, .int .i64 5] W) ∧ (Blk r [.int .i64 1000000000000, .int .i64 1000] W) ∧ (Blk b [.string ⟨#[97, 110, 110]⟩, .int .i64 3000] W) ∧ (Blk a [.string ⟨#[99, 112, 117]⟩, .int .i64 1, .bool false, .int .i64 10, .int .i64 0, .slice (some ⟨p, 0, none⟩) 2 2, .string ⟨#[100, 105, 115, 107]⟩, .int .i64 2, .bool true, .int .i64 0, .int .i64 500, .slice (some ⟨q, 0, none⟩) 3 3, .string ⟨#[110, 101, 116]⟩, .int .i64 4, .bool false, .int .i64 0, .int .i64 0, .slice (some ⟨n, 0, none⟩) 1 1, .string ⟨#[117, 115, 101, 114, 115]⟩, .int .i64 3, .bool false, .int .i64 0, .int .i64 0, .slice (some ⟨r, 0, none⟩) 1 1] W) ∧ (BlkW bX [.slice (some ⟨a, 0, none⟩) 4 4, .slice (some ⟨b, 0, none⟩) 1 1] W) ∧ True)
  intro N5
  apply memo0 (fun  W => (Below w.heap.size w W) ∧ (BlkW bR [.slice none 0 0, .slice none 0 0, .slice none 0 0, .slice none 0 0, .slice none 0 0, .slice none 0 0, .int .i64 0] W) ∧ (Blk p [.int .i64 100, .int .i64 50, .int .i64 1000000000000, .int .i64 20] W) ∧ (Blk q [.int .i64 50, .int .i64 9, .int .i64 200, .int .i64 7, .int .i64 1000000000000, .int .i64 5] W) ∧ (Blk r [.int .i64 1000000000000, .int .i64 1000] W) ∧ (Blk b [.string ⟨#[97, 110, 110]⟩, .int .i64 3000] W) ∧ (Blk a [.string ⟨#[99, 112, 117]⟩, .int .i64 1, .bool false, .int .i64 10, .int .i64 0, .slice (some ⟨p, 0, none⟩) 2 2, .string ⟨#[100, 105, 115, 107]⟩, .int .i64 2, .bool true, .int .i64 0, .int .i64 500, .slice (some ⟨q, 0, none⟩) 3 3, .string ⟨#[110, 101, 116]⟩, .int .i64 4, .bool false, .int .i64 0, .int .i64 0, .slice (some ⟨n, 0, none⟩) 1 1, .string ⟨#[117, 115, 101, 114, 115]⟩, .int .i64 3, .bool false, .int .i64 0, .int .i64 0, .slice (some ⟨r, 0, none⟩) 1 1] W) ∧ (BlkW bX [.slice (some ⟨a, 0, none⟩) 4 4, .slice (some ⟨b, 0, none⟩) 1 1] W) ∧ True)
  intro N9
  · refine wpAnyH_take (i := 0) (oi := { dst := some 3, op := Op.fieldAddr 25 (Operand.tmp 1) 0, type := 0, pos := "l12_desk.go:9", after := #[], guard := none }) (v := ?_) rfl (by kernel_rfl) (by kernel_rfl) (by kernel_rfl) (fun _ _ _ h => h) (Or.inl ⟨by rfl, ?_⟩) (by assumption) ?_
    rotate_left
    · (intro w hSw; (try dsimp only at hSw); go_simp) <;> with_reducible rfl
    try simp only [Act.put, List.setIfInBounds_toArray, List.set_cons_zero, List.set_cons_succ]
    refine wpAnyH_take (i := 4) (oi := { dst := some 7, op := Op.fieldAddr 25 (Operand.tmp 1) 0, type := 0, pos := "l12_desk.go:9", after := #[], guard := none }) (v := ?_) rfl (by kernel_rfl) (by kernel_rfl) (by kernel_rfl) (fun _ _ _ h => h) (Or.inl ⟨by rfl, ?_⟩) (by assumption) ?_
    rotate_left
    · (intro w hSw; (try dsimp only at hSw); go_simp) <;> with_reducible rfl
    try simp only [Act.put, List.setIfInBounds_toArray, List.set_cons_zero, List.set_cons_succ]
    refine wpAnyH_take (i := 8) (oi := { dst := some 11, op := Op.fieldAddr 25 (Operand.tmp 1) 0, type := 0, pos := "l12_desk.go:9", after := #[], guard := none }) (v := ?_) rfl (by kernel_rfl) (by kernel_rfl) (by kernel_rfl) (fun _ _ _ h => h) (Or.inl ⟨by rfl, ?_⟩) (by assumption) ?_
    rotate_left
    · (intro w hSw; (try dsimp only at hSw); go_simp) <;> with_reducible rfl
    try simp only [Act.put, List.setIfInBounds_toArray, List.set_cons_zero, List.set_cons_succ]
    refine wpAnyH_ready (rs := [1, 5, 9]) (by kernel_rfl) (by simp) ?_
    refine AllReadyH.cons (o := { dst := some 4, op := Op.load 22 (Operand.tmp 3), type := 22, pos := "l12_desk.go:9", after := #[{ on := 0, ground := Ground.data }], guard := none }) rfl (fun K hK => ?_) (AllReadyH.cons (o := { dst := some 8, op := Op.load 22 (Operand.tmp 7), type := 22, pos := "l12_desk.go:9", after := #[{ on := 4, ground := Ground.data }], guard := none }) rfl (fun K hK => ?_) (AllReadyH.cons (o := { dst := some 12, op := Op.load 22 (Operand.tmp 11), type := 22, pos := "l12_desk.go:9", after := #[{ on := 8, ground := Ground.data }], guard := none }) rfl (fun K hK => ?_) AllReadyH.nil))
    · have c6 := hX0.1.2 0 (by simp)
      have l6 := hX0.1.1
      simp only [List.getElem?_cons_zero] at c6
      go_simp
      try go_wp2_with fail
      refine hK.out _ _ (HSS.out _ hA0) (fun _ => ?_)
      clear hK K
      try simp only [Act.put, List.setIfInBounds_toArray, List.set_cons_zero, List.set_cons_succ]
      clear c6 l6
      refine wpAnyH_take (i := 2) (oi := { dst := some 5, op := Op.indexAddr 22 (Operand.tmp 4) (Operand.const (Value.int IntKind.i64 0)), type := 0, pos := "l12_desk.go:9", after := #[{ on := 1, ground := Ground.data }], guard := none }) (v := ?_) rfl (by kernel_rfl) (by kernel_rfl) (by kernel_rfl) (fun _ _ _ h => h) (Or.inl ⟨by rfl, ?_⟩) (by assumption) ?_
      rotate_left
      · (intro w hSw; (try dsimp only at hSw); go_simp) <;> with_reducible rfl
      try simp only [Act.put, List.setIfInBounds_toArray, List.set_cons_zero, List.set_cons_succ]
      refine wpAnyH_take (i := 3) (oi := { dst := some 6, op := Op.load 39 (Operand.tmp 5), type := 39, pos := "l12_desk.go:9", after := #[{ on := 2, ground := Ground.data }], guard := none }) (v := ?_) rfl (by kernel_rfl) (by kernel_rfl) (by kernel_rfl) (fun _ _ _ h => h) (Or.inl ⟨by rfl, ?_⟩) (by assumption) ?_
      rotate_left
      · (intro w hSw; (try dsimp only at hSw); go_simp) <;> with_reducible rfl
      try simp only [Act.put, List.setIfInBounds_toArray, List.set_cons_zero, List.set_cons_succ]
      exact N1.out  k1 ⟨hB0, hR0, hP0, hQ0, hT0, hC0, hA0, hX0, trivial⟩
    · have c6 := hX0.1.2 0 (by simp)
      have l6 := hX0.1.1
      simp only [List.getElem?_cons_zero] at c6
      go_simp
      try go_wp2_with fail
      refine hK.out _ _ (HSS.out _ hA0) (fun _ => ?_)
      clear hK K
      try simp only [Act.put, List.setIfInBounds_toArray, List.set_cons_zero, List.set_cons_succ]
      clear c6 l6
      refine wpAnyH_take (i := 6) (oi := { dst := some 9, op := Op.indexAddr 22 (Operand.tmp 8) (Operand.const (Value.int IntKind.i64 1)), type := 0, pos := "l12_desk.go:9", after := #[{ on := 5, ground := Ground.data }], guard := none }) (v := ?_) rfl (by kernel_rfl) (by kernel_rfl) (by kernel_rfl) (fun _ _ _ h => h) (Or.inl ⟨by rfl, ?_⟩) (by assumption) ?_
      rotate_left
      · (intro w hSw; (try dsimp only at hSw); go_simp) <;> with_reducible rfl
      try simp only [Act.put, List.setIfInBounds_toArray, List.set_cons_zero, List.set_cons_succ]
      refine wpAnyH_take (i := 7) (oi := { dst := some 10, op := Op.load 39 (Operand.tmp 9), type := 39, pos := "l12_desk.go:9", after := #[{ on := 6, ground := Ground.data }], guard := none }) (v := ?_) rfl (by kernel_rfl) (by kernel_rfl) (by kernel_rfl) (fun _ _ _ h => h) (Or.inl ⟨by rfl, ?_⟩) (by assumption) ?_
      rotate_left
      · (intro w hSw; (try dsimp only at hSw); go_simp) <;> with_reducible rfl
      try simp only [Act.put, List.setIfInBounds_toArray, List.set_cons_zero, List.set_cons_succ]
      exact N5.out  k1 ⟨hB0, hR0, hP0, hQ0, hT0, hC0, hA0, hX0, trivial⟩
    · have c6 := hX0.1.2 0 (by simp)
      have l6 := hX0.1.1
      simp only [List.getElem?_cons_zero] at c6
      go_simp
      try go_wp2_with fail
      refine hK.out _ _ (HSS.out _ hA0) (fun _ => ?_)
      clear hK K
      try simp only [Act.put, List.setIfInBounds_toArray, List.set_cons_zero, List.set_cons_succ]
      clear c6 l6
      refine wpAnyH_take (i := 10) (oi := { dst := some 13, op := Op.indexAddr 22 (Operand.tmp 12) (Operand.const (Value.int IntKind.i64 3)), type := 0, pos := "l12_desk.go:9", after := #[{ on := 9, ground := Ground.data }], guard := none }) (v := ?_) rfl (by kernel_rfl) (by kernel_rfl) (by kernel_rfl) (fun _ _ _ h => h) (Or.inl ⟨by rfl, ?_⟩) (by assumption) ?_
      rotate_left
      · (intro w hSw; (try dsimp only at hSw); go_simp) <;> with_reducible rfl
      try simp only [Act.put, List.setIfInBounds_toArray, List.set_cons_zero, List.set_cons_succ]
      refine wpAnyH_take (i := 11) (oi := { dst := some 14, op := Op.load 39 (Operand.tmp 13), type := 39, pos := "l12_desk.go:9", after := #[{ on := 10, ground := Ground.data }], guard := none }) (v := ?_) rfl (by kernel_rfl) (by kernel_rfl) (by kernel_rfl) (fun _ _ _ h => h) (Or.inl ⟨by rfl, ?_⟩) (by assumption) ?_
      rotate_left
      · (intro w hSw; (try dsimp only at hSw); go_simp) <;> with_reducible rfl
      try simp only [Act.put, List.setIfInBounds_toArray, List.set_cons_zero, List.set_cons_succ]
      exact N9.out  k1 ⟨hB0, hR0, hP0, hQ0, hT0, hC0, hA0, hX0, trivial⟩
  · rintro  W ⟨hB0, hR0, hP0, hQ0, hT0, hC0, hA0, hX0, _⟩
    refine wpAnyH_ready (rs := [1, 5]) (by kernel_rfl) (by simp) ?_
    refine AllReadyH.cons (o := { dst := some 4, op := Op.load 22 (Operand.tmp 3), type := 22, pos := "l12_desk.go:9", after := #[{ on := 0, ground := Ground.data }], guard := none }) rfl (fun K hK => ?_) (AllReadyH.cons (o := { dst := some 8, op := Op.load 22 (Operand.tmp 7), type := 22, pos := "l12_desk.go:9", after := #[{ on := 4, ground := Ground.data }], guard := none }) rfl (fun K hK => ?_) AllReadyH.nil)
    · have c6 := hX0.1.2 0 (by simp)
      have l6 := hX0.1.1
      simp only [List.getElem?_cons_zero] at c6
      go_simp
      try go_wp2_with fail
      refine hK.out _ _ (HSS.out _ hA0) (fun _ => ?_)
      clear hK K
      try simp only [Act.put, List.setIfInBounds_toArray, List.set_cons_zero, List.set_cons_succ]
      clear c6 l6
      refine wpAnyH_take (i := 2) (oi := { dst := some 5, op := Op.indexAddr 22 (Operand.tmp 4) (Operand.const (Value.int IntKind.i64 0)), type := 0, pos := "l12_desk.go:9", after := #[{ on := 1, ground := Ground.data }], guard := none }) (v := ?_) rfl (by kernel_rfl) (by kernel_rfl) (by kernel_rfl) (fun _ _ _ h => h) (Or.inl ⟨by rfl, ?_⟩) (by assumption) ?_
      rotate_left
      · (intro w hSw; (try dsimp only at hSw); go_simp) <;> with_reducible rfl
      try simp only [Act.put, List.setIfInBounds_toArray, List.set_cons_zero, List.set_cons_succ]
      refine wpAnyH_take (i := 3) (oi := { dst := some 6, op := Op.load 39 (Operand.tmp 5), type := 39, pos := "l12_desk.go:9", after := #[{ on := 2, ground := Ground.data }], guard := none }) (v := ?_) rfl (by kernel_rfl) (by kernel_rfl) (by kernel_rfl) (fun _ _ _ h => h) (Or.inl ⟨by rfl, ?_⟩) (by assumption) ?_
      rotate_left
      · (intro w hSw; (try dsimp only at hSw); go_simp) <;> with_reducible rfl
      try simp only [Act.put, List.setIfInBounds_toArray, List.set_cons_zero, List.set_cons_succ]
      exact N1_9.out  W ⟨hB0, hR0, hP0, hQ0, hT0, hC0, hA0, hX0, trivial⟩
    · have c6 := hX0.1.2 0 (by simp)
      have l6 := hX0.1.1
      simp only [List.getElem?_cons_zero] at c6
      go_simp
      try go_wp2_with fail
      refine hK.out _ _ (HSS.out _ hA0) (fun _ => ?_)
      clear hK K
      try simp only [Act.put, List.setIfInBounds_toArray, List.set_cons_zero, List.set_cons_succ]
      clear c6 l6
      refine wpAnyH_take (i := 6) (oi := { dst := some 9, op := Op.indexAddr 22 (Operand.tmp 8) (Operand.const (Value.int IntKind.i64 1)), type := 0, pos := "l12_desk.go:9", after := #[{ on := 5, ground := Ground.data }], guard := none }) (v := ?_) rfl (by kernel_rfl) (by kernel_rfl) (by kernel_rfl) (fun _ _ _ h => h) (Or.inl ⟨by rfl, ?_⟩) (by assumption) ?_
      rotate_left
      · (intro w hSw; (try dsimp only at hSw); go_simp) <;> with_reducible rfl
      try simp only [Act.put, List.setIfInBounds_toArray, List.set_cons_zero, List.set_cons_succ]
      refine wpAnyH_take (i := 7) (oi := { dst := some 10, op := Op.load 39 (Operand.tmp 9), type := 39, pos := "l12_desk.go:9", after := #[{ on := 6, ground := Ground.data }], guard := none }) (v := ?_) rfl (by kernel_rfl) (by kernel_rfl) (by kernel_rfl) (fun _ _ _ h => h) (Or.inl ⟨by rfl, ?_⟩) (by assumption) ?_
      rotate_left
      · (intro w hSw; (try dsimp only at hSw); go_simp) <;> with_reducible rfl
      try simp only [Act.put, List.setIfInBounds_toArray, List.set_cons_zero, List.set_cons_succ]
      exact N5_9.out  W ⟨hB0, hR0, hP0, hQ0, hT0, hC0, hA0, hX0, trivial⟩
  · rintro  W ⟨hB0, hR0, hP0, hQ0, hT0, hC0, hA0, hX0, _⟩
    refine wpAnyH_ready (rs := [1, 9]) (by kernel_rfl) (by simp) ?_
    refine AllReadyH.cons (o := { dst := some 4, op := Op.load 22 (Operand.tmp 3), type := 22, pos := "l12_desk.go:9", after := #[{ on := 0, ground := Ground.data }], guard := none }) rfl (fun K hK => ?_) (AllReadyH.cons (o := { dst := some 12, op := Op.load 22 (Operand.tmp 11), type := 22, pos := "l12_desk.go:9", after := #[{ on := 8, ground := Ground.data }], guard := none }) rfl (fun K hK => ?_) AllReadyH.nil)
    · have c6 := hX0.1.2 0 (by simp)
      have l6 := hX0.1.1
      simp only [List.getElem?_cons_zero] at c6
      go_simp
      try go_wp2_with fail
      refine hK.out _ _ (HSS.out _ hA0) (fun _ => ?_)
      clear hK K
      try simp only [Act.put, List.setIfInBounds_toArray, List.set_cons_zero, List.set_cons_succ]
      clear c6 l6
      refine wpAnyH_take (i := 2) (oi := { dst := some 5, op := Op.indexAddr 22 (Operand.tmp 4) (Operand.const (Value.int IntKind.i64 0)), type := 0, pos := "l12_desk.go:9", after := #[{ on := 1, ground := Ground.data }], guard := none }) (v := ?_) rfl (by kernel_rfl) (by kernel_rfl) (by kernel_rfl) (fun _ _ _ h => h) (Or.inl ⟨by rfl, ?_⟩) (by assumption) ?_
      rotate_left
      · (intro w hSw; (try dsimp only at hSw); go_simp) <;> with_reducible rfl
      try simp only [Act.put, List.setIfInBounds_toArray, List.set_cons_zero, List.set_cons_succ]
      refine wpAnyH_take (i := 3) (oi := { dst := some 6, op := Op.load 39 (Operand.tmp 5), type := 39, pos := "l12_desk.go:9", after := #[{ on := 2, ground := Ground.data }], guard := none }) (v := ?_) rfl (by kernel_rfl) (by kernel_rfl) (by kernel_rfl) (fun _ _ _ h => h) (Or.inl ⟨by rfl, ?_⟩) (by assumption) ?_
      rotate_left
      · (intro w hSw; (try dsimp only at hSw); go_simp) <;> with_reducible rfl
      try simp only [Act.put, List.setIfInBounds_toArray, List.set_cons_zero, List.set_cons_succ]
      exact N1_5.out  W ⟨hB0, hR0, hP0, hQ0, hT0, hC0, hA0, hX0, trivial⟩
    · have c6 := hX0.1.2 0 (by simp)
      have l6 := hX0.1.1
      simp only [List.getElem?_cons_zero] at c6
      go_simp
      try go_wp2_with fail
      refine hK.out _ _ (HSS.out _ hA0) (fun _ => ?_)
      clear hK K
      try simp only [Act.put, List.setIfInBounds_toArray, List.set_cons_zero, List.set_cons_succ]
      clear c6 l6
      refine wpAnyH_take (i := 10) (oi := { dst := some 13, op := Op.indexAddr 22 (Operand.tmp 12) (Operand.const (Value.int IntKind.i64 3)), type := 0, pos := "l12_desk.go:9", after := #[{ on := 9, ground := Ground.data }], guard := none }) (v := ?_) rfl (by kernel_rfl) (by kernel_rfl) (by kernel_rfl) (fun _ _ _ h => h) (Or.inl ⟨by rfl, ?_⟩) (by assumption) ?_
      rotate_left
      · (intro w hSw; (try dsimp only at hSw); go_simp) <;> with_reducible rfl
      try simp only [Act.put, List.setIfInBounds_toArray, List.set_cons_zero, List.set_cons_succ]
      refine wpAnyH_take (i := 11) (oi := { dst := some 14, op := Op.load 39 (Operand.tmp 13), type := 39, pos := "l12_desk.go:9", after := #[{ on := 10, ground := Ground.data }], guard := none }) (v := ?_) rfl (by kernel_rfl) (by kernel_rfl) (by kernel_rfl) (fun _ _ _ h => h) (Or.inl ⟨by rfl, ?_⟩) (by assumption) ?_
      rotate_left
      · (intro w hSw; (try dsimp only at hSw); go_simp) <;> with_reducible rfl
      try simp only [Act.put, List.setIfInBounds_toArray, List.set_cons_zero, List.set_cons_succ]
      exact N5_9.out  W ⟨hB0, hR0, hP0, hQ0, hT0, hC0, hA0, hX0, trivial⟩
  · rintro  W ⟨hB0, hR0, hP0, hQ0, hT0, hC0, hA0, hX0, _⟩
    refine wpAnyH_ready (rs := [5, 9]) (by kernel_rfl) (by simp) ?_
    refine AllReadyH.cons (o := { dst := some 8, op := Op.load 22 (Operand.tmp 7), type := 22, pos := "l12_desk.go:9", after := #[{ on := 4, ground := Ground.data }], guard := none }) rfl (fun K hK => ?_) (AllReadyH.cons (o := { dst := some 12, op := Op.load 22 (Operand.tmp 11), type := 22, pos := "l12_desk.go:9", after := #[{ on := 8, ground := Ground.data }], guard := none }) rfl (fun K hK => ?_) AllReadyH.nil)
    · have c6 := hX0.1.2 0 (by simp)
      have l6 := hX0.1.1
      simp only [List.getElem?_cons_zero] at c6
      go_simp
      try go_wp2_with fail
      refine hK.out _ _ (HSS.out _ hA0) (fun _ => ?_)
      clear hK K
      try simp only [Act.put, List.setIfInBounds_toArray, List.set_cons_zero, List.set_cons_succ]
      clear c6 l6
      refine wpAnyH_take (i := 6) (oi := { dst := some 9, op := Op.indexAddr 22 (Operand.tmp 8) (Operand.const (Value.int IntKind.i64 1)), type := 0, pos := "l12_desk.go:9", after := #[{ on := 5, ground := Ground.data }], guard := none }) (v := ?_) rfl (by kernel_rfl) (by kernel_rfl) (by kernel_rfl) (fun _ _ _ h => h) (Or.inl ⟨by rfl, ?_⟩) (by assumption) ?_
      rotate_left
      · (intro w hSw; (try dsimp only at hSw); go_simp) <;> with_reducible rfl
      try simp only [Act.put, List.setIfInBounds_toArray, List.set_cons_zero, List.set_cons_succ]
      refine wpAnyH_take (i := 7) (oi := { dst := some 10, op := Op.load 39 (Operand.tmp 9), type := 39, pos := "l12_desk.go:9", after := #[{ on := 6, ground := Ground.data }], guard := none }) (v := ?_) rfl (by kernel_rfl) (by kernel_rfl) (by kernel_rfl) (fun _ _ _ h => h) (Or.inl ⟨by rfl, ?_⟩) (by assumption) ?_
      rotate_left
      · (intro w hSw; (try dsimp only at hSw); go_simp) <;> with_reducible rfl
      try simp only [Act.put, List.setIfInBounds_toArray, List.set_cons_zero, List.set_cons_succ]
      exact N1_5.out  W ⟨hB0, hR0, hP0, hQ0, hT0, hC0, hA0, hX0, trivial⟩
    · have c6 := hX0.1.2 0 (by simp)
      have l6 := hX0.1.1
      simp only [List.getElem?_cons_zero] at c6
      go_simp
      try go_wp2_with fail
      refine hK.out _ _ (HSS.out _ hA0) (fun _ => ?_)
      clear hK K
      try simp only [Act.put, List.setIfInBounds_toArray, List.set_cons_zero, List.set_cons_succ]
      clear c6 l6
      refine wpAnyH_take (i := 10) (oi := { dst := some 13, op := Op.indexAddr 22 (Operand.tmp 12) (Operand.const (Value.int IntKind.i64 3)), type := 0, pos := "l12_desk.go:9", after := #[{ on := 9, ground := Ground.data }], guard := none }) (v := ?_) rfl (by kernel_rfl) (by kernel_rfl) (by kernel_rfl) (fun _ _ _ h => h) (Or.inl ⟨by rfl, ?_⟩) (by assumption) ?_
      rotate_left
      · (intro w hSw; (try dsimp only at hSw); go_simp) <;> with_reducible rfl
      try simp only [Act.put, List.setIfInBounds_toArray, List.set_cons_zero, List.set_cons_succ]
      refine wpAnyH_take (i := 11) (oi := { dst := some 14, op := Op.load 39 (Operand.tmp 13), type := 39, pos := "l12_desk.go:9", after := #[{ on := 10, ground := Ground.data }], guard := none }) (v := ?_) rfl (by kernel_rfl) (by kernel_rfl) (by kernel_rfl) (fun _ _ _ h => h) (Or.inl ⟨by rfl, ?_⟩) (by assumption) ?_
      rotate_left
      · (intro w hSw; (try dsimp only at hSw); go_simp) <;> with_reducible rfl
      try simp only [Act.put, List.setIfInBounds_toArray, List.set_cons_zero, List.set_cons_succ]
      exact N1_9.out  W ⟨hB0, hR0, hP0, hQ0, hT0, hC0, hA0, hX0, trivial⟩
  · rintro  W ⟨hB0, hR0, hP0, hQ0, hT0, hC0, hA0, hX0, _⟩
    refine wpAnyH_ready (rs := [1]) (by kernel_rfl) (by simp) ?_
    refine AllReadyH.cons (o := { dst := some 4, op := Op.load 22 (Operand.tmp 3), type := 22, pos := "l12_desk.go:9", after := #[{ on := 0, ground := Ground.data }], guard := none }) rfl (fun K hK => ?_) AllReadyH.nil
    have c6 := hX0.1.2 0 (by simp)
    have l6 := hX0.1.1
    simp only [List.getElem?_cons_zero] at c6
    go_simp
    try go_wp2_with fail
    refine hK.out _ _ (HSS.out _ hA0) (fun _ => ?_)
    clear hK K
    try simp only [Act.put, List.setIfInBounds_toArray, List.set_cons_zero, List.set_cons_succ]
    clear c6 l6
    refine wpAnyH_take (i := 2) (oi := { dst := some 5, op := Op.indexAddr 22 (Operand.tmp 4) (Operand.const (Value.int IntKind.i64 0)), type := 0, pos := "l12_desk.go:9", after := #[{ on := 1, ground := Ground.data }], guard := none }) (v := ?_) rfl (by kernel_rfl) (by kernel_rfl) (by kernel_rfl) (fun _ _ _ h => h) (Or.inl ⟨by rfl, ?_⟩) (by assumption) ?_
    rotate_left
    · (intro w hSw; (try dsimp only at hSw); go_simp) <;> with_reducible rfl
    try simp only [Act.put, List.setIfInBounds_toArray, List.set_cons_zero, List.set_cons_succ]
    refine wpAnyH_take (i := 3) (oi := { dst := some 6, op := Op.load 39 (Operand.tmp 5), type := 39, pos := "l12_desk.go:9", after := #[{ on := 2, ground := Ground.data }], guard := none }) (v := ?_) rfl (by kernel_rfl) (by kernel_rfl) (by kernel_rfl) (fun _ _ _ h => h) (Or.inl ⟨by rfl, ?_⟩) (by assumption) ?_
    rotate_left
    · (intro w hSw; (try dsimp only at hSw); go_simp) <;> with_reducible rfl
    try simp only [Act.put, List.setIfInBounds_toArray, List.set_cons_zero, List.set_cons_succ]
    exact N1_5_9.out  W ⟨hB0, hR0, hP0, hQ0, hT0, hC0, hA0, hX0, trivial⟩
  · rintro  W ⟨hB0, hR0, hP0, hQ0, hT0, hC0, hA0, hX0, _⟩
    refine wpAnyH_ready (rs := [5]) (by kernel_rfl) (by simp) ?_
    refine AllReadyH.cons (o := { dst := some 8, op := Op.load 22 (Operand.tmp 7), type := 22, pos := "l12_desk.go:9", after := #[{ on := 4, ground := Ground.data }], guard := none }) rfl (fun K hK => ?_) AllReadyH.nil
    have c6 := hX0.1.2 0 (by simp)
    have l6 := hX0.1.1
    simp only [List.getElem?_cons_zero] at c6
    go_simp
    try go_wp2_with fail
    refine hK.out _ _ (HSS.out _ hA0) (fun _ => ?_)
    clear hK K
    try simp only [Act.put, List.setIfInBounds_toArray, List.set_cons_zero, List.set_cons_succ]
    clear c6 l6
    refine wpAnyH_take (i := 6) (oi := { dst := some 9, op := Op.indexAddr 22 (Operand.tmp 8) (Operand.const (Value.int IntKind.i64 1)), type := 0, pos := "l12_desk.go:9", after := #[{ on := 5, ground := Ground.data }], guard := none }) (v := ?_) rfl (by kernel_rfl) (by kernel_rfl) (by kernel_rfl) (fun _ _ _ h => h) (Or.inl ⟨by rfl, ?_⟩) (by assumption) ?_
    rotate_left
    · (intro w hSw; (try dsimp only at hSw); go_simp) <;> with_reducible rfl
    try simp only [Act.put, List.setIfInBounds_toArray, List.set_cons_zero, List.set_cons_succ]
    refine wpAnyH_take (i := 7) (oi := { dst := some 10, op := Op.load 39 (Operand.tmp 9), type := 39, pos := "l12_desk.go:9", after := #[{ on := 6, ground := Ground.data }], guard := none }) (v := ?_) rfl (by kernel_rfl) (by kernel_rfl) (by kernel_rfl) (fun _ _ _ h => h) (Or.inl ⟨by rfl, ?_⟩) (by assumption) ?_
    rotate_left
    · (intro w hSw; (try dsimp only at hSw); go_simp) <;> with_reducible rfl
    try simp only [Act.put, List.setIfInBounds_toArray, List.set_cons_zero, List.set_cons_succ]
    exact N1_5_9.out  W ⟨hB0, hR0, hP0, hQ0, hT0, hC0, hA0, hX0, trivial⟩
  · rintro  W ⟨hB0, hR0, hP0, hQ0, hT0, hC0, hA0, hX0, _⟩
    refine wpAnyH_ready (rs := [9]) (by kernel_rfl) (by simp) ?_
    refine AllReadyH.cons (o := { dst := some 12, op := Op.load 22 (Operand.tmp 11), type := 22, pos := "l12_desk.go:9", after := #[{ on := 8, ground := Ground.data }], guard := none }) rfl (fun K hK => ?_) AllReadyH.nil
    have c6 := hX0.1.2 0 (by simp)
    have l6 := hX0.1.1
    simp only [List.getElem?_cons_zero] at c6
    go_simp
    try go_wp2_with fail
    refine hK.out _ _ (HSS.out _ hA0) (fun _ => ?_)
    clear hK K
    try simp only [Act.put, List.setIfInBounds_toArray, List.set_cons_zero, List.set_cons_succ]
    clear c6 l6
    refine wpAnyH_take (i := 10) (oi := { dst := some 13, op := Op.indexAddr 22 (Operand.tmp 12) (Operand.const (Value.int IntKind.i64 3)), type := 0, pos := "l12_desk.go:9", after := #[{ on := 9, ground := Ground.data }], guard := none }) (v := ?_) rfl (by kernel_rfl) (by kernel_rfl) (by kernel_rfl) (fun _ _ _ h => h) (Or.inl ⟨by rfl, ?_⟩) (by assumption) ?_
    rotate_left
    · (intro w hSw; (try dsimp only at hSw); go_simp) <;> with_reducible rfl
    try simp only [Act.put, List.setIfInBounds_toArray, List.set_cons_zero, List.set_cons_succ]
    refine wpAnyH_take (i := 11) (oi := { dst := some 14, op := Op.load 39 (Operand.tmp 13), type := 39, pos := "l12_desk.go:9", after := #[{ on := 10, ground := Ground.data }], guard := none }) (v := ?_) rfl (by kernel_rfl) (by kernel_rfl) (by kernel_rfl) (fun _ _ _ h => h) (Or.inl ⟨by rfl, ?_⟩) (by assumption) ?_
    rotate_left
    · (intro w hSw; (try dsimp only at hSw); go_simp) <;> with_reducible rfl
    try simp only [Act.put, List.setIfInBounds_toArray, List.set_cons_zero, List.set_cons_succ]
    exact N1_5_9.out  W ⟨hB0, hR0, hP0, hQ0, hT0, hC0, hA0, hX0, trivial⟩
  · rintro  W ⟨hB0, hR0, hP0, hQ0, hT0, hC0, hA0, hX0, _⟩
    refine wpAnyH_ready (rs := [12]) (by kernel_rfl) (by simp) ?_
    refine AllReadyH.cons (o := { dst := some 15, op := Op.buildSlice 22 3 #[(0, Operand.tmp 6), (1, Operand.tmp 10), (2, Operand.tmp 14)], type := 22, pos := "l12_desk.go:9", after := #[{ on := 3, ground := Ground.data }, { on := 7, ground := Ground.data }, { on := 11, ground := Ground.data }], guard := none }) rfl (fun K hK => ?_) AllReadyH.nil
    go_simp
    try go_wp2_with fail
    have hB1 := hB0.alloc hB0.size (Obj.cells #[.string ⟨#[99, 112, 117]⟩, .int .i64 1, .bool false, .int .i64 10, .int .i64 0, .slice (some ⟨p, 0, none⟩) 2 2, .string ⟨#[100, 105, 115, 107]⟩, .int .i64 2, .bool true, .int .i64 0, .int .i64 500, .slice (some ⟨q, 0, none⟩) 3 3, .string ⟨#[117, 115, 101, 114, 115]⟩, .int .i64 3, .bool false, .int .i64 0, .int .i64 0, .slice (some ⟨r, 0, none⟩) 1 1] 39)
    have hR1 := hR0.below ((Below.refl W.heap.size W).alloc (Nat.le_refl _) (Obj.cells #[.string ⟨#[99, 112, 117]⟩, .int .i64 1, .bool false, .int .i64 10, .int .i64 0, .slice (some ⟨p, 0, none⟩) 2 2, .string ⟨#[100, 105, 115, 107]⟩, .int .i64 2, .bool true, .int .i64 0, .int .i64 500, .slice (some ⟨q, 0, none⟩) 3 3, .string ⟨#[117, 115, 101, 114, 115]⟩, .int .i64 3, .bool false, .int .i64 0, .int .i64 0, .slice (some ⟨r, 0, none⟩) 1 1] 39))
    have hP1 := hP0.below ((Below.refl W.heap.size W).alloc (Nat.le_refl _) (Obj.cells #[.string ⟨#[99, 112, 117]⟩, .int .i64 1, .bool false, .int .i64 10, .int .i64 0, .slice (some ⟨p, 0, none⟩) 2 2, .string ⟨#[100, 105, 115, 107]⟩, .int .i64 2, .bool true, .int .i64 0, .int .i64 500, .slice (some ⟨q, 0, none⟩) 3 3, .string ⟨#[117, 115, 101, 114, 115]⟩, .int .i64 3, .bool false, .int .i64 0, .int .i64 0, .slice (some ⟨r, 0, none⟩) 1 1] 39))
    have hQ1 := hQ0.below ((Below.refl W.heap.size W).alloc (Nat.le_refl _) (Obj.cells #[.string ⟨#[99, 112, 117]⟩, .int .i64 1, .bool false, .int .i64 10, .int .i64 0, .slice (some ⟨p, 0, none⟩) 2 2, .string ⟨#[100, 105, 115, 107]⟩, .int .i64 2, .bool true, .int .i64 0, .int .i64 500, .slice (some ⟨q, 0, none⟩) 3 3, .string ⟨#[117, 115, 101, 114, 115]⟩, .int .i64 3, .bool false, .int .i64 0, .int .i64 0, .slice (some ⟨r, 0, none⟩) 1 1] 39))
    have hT1 := hT0.below ((Below.refl W.heap.size W).alloc (Nat.le_refl _) (Obj.cells #[.string ⟨#[99, 112, 117]⟩, .int .i64 1, .bool false, .int .i64 10, .int .i64 0, .slice (some ⟨p, 0, none⟩) 2 2, .string ⟨#[100, 105, 115, 107]⟩, .int .i64 2, .bool true, .int .i64 0, .int .i64 500, .slice (some ⟨q, 0, none⟩) 3 3, .string ⟨#[117, 115, 101, 114, 115]⟩, .int .i64 3, .bool false, .int .i64 0, .int .i64 0, .slice (some ⟨r, 0, none⟩) 1 1] 39))
    have hC1 := hC0.below ((Below.refl W.heap.size W).alloc (Nat.le_refl _) (Obj.cells #[.string ⟨#[99, 112, 117]⟩, .int .i64 1, .bool false, .int .i64 10, .int .i64 0, .slice (some ⟨p, 0, none⟩) 2 2, .string ⟨#[100, 105, 115, 107]⟩, .int .i64 2, .bool true, .int .i64 0, .int .i64 500, .slice (some ⟨q, 0, none⟩) 3 3, .string ⟨#[117, 115, 101, 114, 115]⟩, .int .i64 3, .bool false, .int .i64 0, .int .i64 0, .slice (some ⟨r, 0, none⟩) 1 1] 39))
    have hA1 := hA0.below ((Below.refl W.heap.size W).alloc (Nat.le_refl _) (Obj.cells #[.string ⟨#[99, 112, 117]⟩, .int .i64 1, .bool false, .int .i64 10, .int .i64 0, .slice (some ⟨p, 0, none⟩) 2 2, .string ⟨#[100, 105, 115, 107]⟩, .int .i64 2, .bool true, .int .i64 0, .int .i64 500, .slice (some ⟨q, 0, none⟩) 3 3, .string ⟨#[117, 115, 101, 114, 115]⟩, .int .i64 3, .bool false, .int .i64 0, .int .i64 0, .slice (some ⟨r, 0, none⟩) 1 1] 39))
    have hX1 := hX0.below ((Below.refl W.heap.size W).alloc (Nat.le_refl _) (Obj.cells #[.string ⟨#[99, 112, 117]⟩, .int .i64 1, .bool false, .int .i64 10, .int .i64 0, .slice (some ⟨p, 0, none⟩) 2 2, .string ⟨#[100, 105, 115, 107]⟩, .int .i64 2, .bool true, .int .i64 0, .int .i64 500, .slice (some ⟨q, 0, none⟩) 3 3, .string ⟨#[117, 115, 101, 114, 115]⟩, .int .i64 3, .bool false, .int .i64 0, .int .i64 0, .slice (some ⟨r, 0, none⟩) 1 1] 39))
    have hN1 : Blk W.heap.size [.string ⟨#[99, 112, 117]⟩, .int .i64 1, .bool false, .int .i64 10, .int .i64 0, .slice (some ⟨p, 0, none⟩) 2 2, .string ⟨#[100, 105, 115, 107]⟩, .int .i64 2, .bool true, .int .i64 0, .int .i64 500, .slice (some ⟨q, 0, none⟩) 3 3, .string ⟨#[117, 115, 101, 114, 115]⟩, .int .i64 3, .bool false, .int .i64 0, .int .i64 0, .slice (some ⟨r, 0, none⟩) 1 1] (W.alloc (Obj.cells #[.string ⟨#[99, 112, 117]⟩, .int .i64 1, .bool false, .int .i64 10, .int .i64 0, .slice (some ⟨p, 0, none⟩) 2 2, .string ⟨#[100, 105, 115, 107]⟩, .int .i64 2, .bool true, .int .i64 0, .int .i64 500, .slice (some ⟨q, 0, none⟩) 3 3, .string ⟨#[117, 115, 101, 114, 115]⟩, .int .i64 3, .bool false, .int .i64 0, .int .i64 0, .slice (some ⟨r, 0, none⟩) 1 1] 39)) := Blk.new W [.string ⟨#[99, 112, 117]⟩, .int .i64 1, .bool false, .int .i64 10, .int .i64 0, .slice (some ⟨p, 0, none⟩) 2 2, .string ⟨#[100, 105, 115, 107]⟩, .int .i64 2, .bool true, .int .i64 0, .int .i64 500, .slice (some ⟨q, 0, none⟩) 3 3, .string ⟨#[117, 115, 101, 114, 115]⟩, .int .i64 3, .bool false, .int .i64 0, .int .i64 0, .slice (some ⟨r, 0, none⟩) 1 1] 39
    have hlN : bX < W.heap.size := hX0.1.1
    refine hK.out _ _ (HSS.out _ hA1) (fun _ => ?_)
    clear hK K
    try simp only [Act.put, List.setIfInBounds_toArray, List.set_cons_zero, List.set_cons_succ]
    obtain ⟨bN, hbN⟩ : ∃ z, z = W.heap.size := ⟨_, rfl⟩
    rw [← hbN] at hN1 hlN ⊢
    obtain ⟨q1, hq1⟩ : ∃ z, z = W.alloc (Obj.cells #[.string ⟨#[99, 112, 117]⟩, .int .i64 1, .bool false, .int .i64 10, .int .i64 0, .slice (some ⟨p, 0, none⟩) 2 2, .string ⟨#[100, 105, 115, 107]⟩, .int .i64 2, .bool true, .int .i64 0, .int .i64 500, .slice (some ⟨q, 0, none⟩) 3 3, .string ⟨#[117, 115, 101, 114, 115]⟩, .int .i64 3, .bool false, .int .i64 0, .int .i64 0, .slice (some ⟨r, 0, none⟩) 1 1] 39) := ⟨_, rfl⟩
    rw [← hq1] at hN1 hB1 hR1 hP1 hQ1 hT1 hC1 hA1 hX1 ⊢
    have hSq := HSS.out _ hA1
    refine wpAnyH_take (i := 13) (oi := { dst := some 16, op := Op.fieldAddr 25 (Operand.tmp 1) 0, type := 0, pos := "l12_desk.go:9", after := #[{ on := 0, ground := Ground.phase }, { on := 1, ground := Ground.phase }, { on := 2, ground := Ground.phase }, { on := 3, ground := Ground.phase }, { on := 4, ground := Ground.phase }, { on := 5, ground := Ground.phase }, { on := 6, ground := Ground.phase }, { on := 7, ground := Ground.phase }, { on := 8, ground := Ground.phase }, { on := 9, ground := Ground.phase }, { on := 10, ground := Ground.phase }, { on := 11, ground := Ground.phase }, { on := 12, ground := Ground.phase }], guard := none }) (v := ?_) rfl (by kernel_rfl) (by kernel_rfl) (by kernel_rfl) (fun _ _ _ h => h) (Or.inl ⟨by rfl, ?_⟩) (by assumption) ?_
    rotate_left
    · (intro w hSw; (try dsimp only at hSw); go_simp) <;> with_reducible rfl
    try simp only [Act.put, List.setIfInBounds_toArray, List.set_cons_zero, List.set_cons_succ]
    exact N1_5_9_12.out bN q1 ⟨hB1, hR1, hP1, hQ1, hT1, hC1, hA1, hX1, hN1, hlN, trivial⟩
  · rintro bN W ⟨hB0, hR0, hP0, hQ0, hT0, hC0, hA0, hX0, hN0, hlN, _⟩
    refine wpAnyH_ready (rs := [14]) (by kernel_rfl) (by simp) ?_
    refine AllReadyH.cons (o := { dst := none, op := Op.store 22 (Operand.tmp 16) (Operand.tmp 15), type := 0, pos := "l12_desk.go:9", after := #[{ on := 13, ground := Ground.data }, { on := 12, ground := Ground.data }, { on := 0, ground := Ground.phase }, { on := 1, ground := Ground.phase }, { on := 2, ground := Ground.phase }, { on := 3, ground := Ground.phase }, { on := 4, ground := Ground.phase }, { on := 5, ground := Ground.phase }, { on := 6, ground := Ground.phase }, { on := 7, ground := Ground.phase }, { on := 8, ground := Ground.phase }, { on := 9, ground := Ground.phase }, { on := 10, ground := Ground.phase }, { on := 11, ground := Ground.phase }, { on := 12, ground := Ground.phase }], guard := none }) rfl (fun K hK => ?_) AllReadyH.nil
    have c6 := hX0.1.2 0 (by simp)
    have l6 := hX0.1.1
    have f6 := hX0.2 0 (by simp)
    simp only [List.getElem?_cons_zero] at c6
    go_simp
    try go_wp2_with fail
    have hg := RowG.grown_set W bX 0 (.slice (some ⟨bN, 0, none⟩) 3 3)
    have hB9 := hB0.setCell (show w.heap.size ≤ (⟨bX, 0, none⟩ : Addr).block from hlow) (.slice (some ⟨bN, 0, none⟩) 3 3)
    have hR9 := blkW_grown hR0 hg (by simp; omega)
    have hX9 := hX0.set 0 (.slice (some ⟨bN, 0, none⟩) 3 3) (by simp)
    simp only [List.set_cons_zero] at hX9
    have hA9 := blk_gr hA0 hg (by have := HLTS.out.1; omega)
    have hP9 := blk_gr hP0 hg (by have := HLTS.out.2.1; omega)
    have hQ9 := blk_gr hQ0 hg (by have := HLTS.out.2.2.1; omega)
    have hT9 := blk_gr hT0 hg (by have := HLTS.out.2.2.2.1; omega)
    have hC9 := blk_gr hC0 hg (by have := HLTS.out.2.2.2.2; omega)
    have hN9 := blk_gr hN0 hg (by omega)
    refine hK.out _ _ (HSS.out _ hA9) (fun _ => ?_)
    clear hK K
    try simp only [Act.put, List.setIfInBounds_toArray, List.set_cons_zero, List.set_cons_succ]
    generalize (W.setCell ⟨bX, 0, none⟩ (.slice (some ⟨bN, 0, none⟩) 3 3)) = kk at *
    refine wpAnyH_done (by kernel_rfl) ?_ _
    have HB2 := hid_intro hB9
    have HR2 := hid_intro hR9
    have HX9 := hid_intro hX9
    have hLy : Lay kk bN b p q r kk := ⟨hN9, hP9, hQ9, hT9, hC9, Below.refl _ _⟩
    have HM2 := hid_intro hLy.mes.1
    have HC2 := hid_intro hLy.mes.2
    clear hLy hA9 hB9 hR9 hP9 hQ9 hT9 hC9 hX9 hN9 hg c6 l6 f6
    have y0 : kk.cell? ⟨bX, 0, none⟩ = some (.slice (some ⟨bN, 0, none⟩) 3 3) := HX9.out.1.2 0 (by simp)
    have y1 : kk.cell? ⟨bX, 1, none⟩ = some (.slice (some ⟨b, 0, none⟩) 1 1) := HX9.out.1.2 1 (by simp)
    have yl := HX9.out.1.1
    obtain ⟨V, hV⟩ : ∃ z, z = kk.alloc (.cells #[.string ⟨#[101, 97, 115, 116]⟩, .string ⟨#[119, 101, 115, 116]⟩] 9) := ⟨_, rfl⟩
    have hal : Below kk.heap.size kk V := by rw [hV]; exact (Below.refl _ _).alloc (Nat.le_refl _) _
    have HTv : Hid (Tgs (some ⟨kk.heap.size, 0, none⟩) dns V) := hid_intro (by rw [hV]; exact tgs_new kk)
    have HBv := hid_intro (HB2.out.trans (hal.mono HB2.out.size))
    have HRv := hid_intro (HR2.out.below hal)
    have HMv := hid_intro (HM2.out.below hal)
    have HCv := hid_intro (HC2.out.below hal)
    have HV := hid_intro hV
    clear hV hal HB2 HR2 HM2 HC2
    go_wp2_with fail
    rw [← HV.out]
    clear HV y0 y1 yl
    refine (HN.out _ _ _ _ _ _ HBv.out HMv.out ⟨_, rfl⟩ HCv.out HTv.out).mono ?_
    rintro e w4 ⟨vm, va, cp, sa, sc, rfl, h1, h2, h3, hb⟩
    have HB4 := hid_intro (HBv.out.trans (hb.mono HBv.out.size))
    have HR4 := hid_intro (HRv.out.below hb)
    have hlo : bR < V.heap.size := HRv.out.1.1
    have HM4 := hid_intro (h1.low (show bR + 1 ≤ _ from hlo))
    have HC4 := hid_intro (own_low h2 (show bR + 1 ≤ _ from hlo))
    have HS4 := hid_intro (own_low h3 (show bR + 1 ≤ _ from hlo))
    clear h1 h2 h3 hb HBv HRv HMv HCv HTv HN
    obtain ⟨ma, mc, rfl, _⟩ := HM4.out.mes
    obtain ⟨ml, hml⟩ : ∃ n, n = EA.ms.length := ⟨_, rfl⟩
    obtain ⟨cl, hcl⟩ : ∃ n, n = EA.cs.length := ⟨_, rfl⟩
    obtain ⟨sl, hsl⟩ : ∃ n, n = ES.length := ⟨_, rfl⟩
    rw [← hml] at HM4
    rw [← hcl] at HC4
    rw [← hsl] at HS4
    have HML := hid_intro hml
    have HCL := hid_intro hcl
    have HSL := hid_intro hsl
    rw [← hml, ← hcl, ← hsl]
    clear hml hcl hsl
    obtain ⟨⟨rl, rk⟩, rf⟩ := HR4.out
    have p0 : w4.cell? ⟨bR, 0, none⟩ = some (.slice none 0 0) := rk 0 (by simp)
    have f0 : w4.frozen? ⟨bR, 0, none⟩ = false := rf 0 (by simp)
    have p1 : w4.cell? ⟨bR, 1, none⟩ = some (.slice none 0 0) := rk 1 (by simp)
    have f1 : w4.frozen? ⟨bR, 1, none⟩ = false := rf 1 (by simp)
    have p2 : w4.cell? ⟨bR, 2, none⟩ = some (.slice none 0 0) := rk 2 (by simp)
    have f2 : w4.frozen? ⟨bR, 2, none⟩ = false := rf 2 (by simp)
    have p3 : w4.cell? ⟨bR, 3, none⟩ = some (.slice none 0 0) := rk 3 (by simp)
    have f3 : w4.frozen? ⟨bR, 3, none⟩ = false := rf 3 (by simp)
    have p4 : w4.cell? ⟨bR, 4, none⟩ = some (.slice none 0 0) := rk 4 (by simp)
    have f4 : w4.frozen? ⟨bR, 4, none⟩ = false := rf 4 (by simp)
    have p5 : w4.cell? ⟨bR, 5, none⟩ = some (.slice none 0 0) := rk 5 (by simp)
    have f5 : w4.frozen? ⟨bR, 5, none⟩ = false := rf 5 (by simp)
    have p6 : w4.cell? ⟨bR, 6, none⟩ = some (.int .i64 0) := rk 6 (by simp)
    have f6 : w4.frozen? ⟨bR, 6, none⟩ = false := rf 6 (by simp)
    have hg := StR.stL_grown bR [.slice ma ml mc, .slice va cl cp, .slice sa sl sc, .slice none 0 0, .slice none 0 0, .slice none 0 0, .int .i64 0] 0 w4
    have HB9 := hid_intro (HB4.out.grown hg HB4.out.size (fun _ e => by cases e; have := HBR.out; omega))
    have HM9 := hid_intro (HM4.out.far hg (by omega))
    have HC9 := hid_intro (own_keepG HC4.out hg (by omega))
    have HS9 := hid_intro (own_keepG HS4.out hg (by omega))
    simp only [StR.stL, Nat.zero_add] at HB9 HM9 HC9 HS9
    clear rk rf hg HB4 HR4 HM4 HC4 HS4
    go_wp2_with fail
    refine bodyPost_ret (v := .agg #[.slice ma ml mc, .slice va cl cp, .slice sa sl sc, .slice none 0 0, .slice none 0 0, .slice none 0 0, .int .i64 0]) (by simp [results, Tryd.results4, go_sem, p0, p1, p2, p3, p4, p5, p6]) rfl ⟨_, rfl, ⟨.slice ma ml mc, va, cp, sa, sc, by rw [← HCL.out, ← HSL.out], HM9.out.low (by have := HBR.out; omega), ?_, ?_⟩, HB9.out⟩
    · rw [← HCL.out]
      exact own_low HC9.out (by have := HBR.out; omega)
    · rw [← HSL.out]
      exact own_low HS9.out (by have := HBR.out; omega)
end EngR
end Go.Proofs.YtlhghjjgpdkekaaDoor
