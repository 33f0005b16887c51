/-
  spec.EngineNew: what comes out, all of it one's own. The conditions: sizes of at most 1048576; the list of credits has a place.
-/
import Derived.Test.YtlhghjjgpdkekaaDoorEnN
import Derived.Test.YtlhghjjgpdkekaaDoorSCa
namespace Go.Proofs.YtlhghjjgpdkekaaDoor
open Go.ChangeShapes Go.WideShapes Go.ChangeAt Go.RowKit
set_option linter.unusedVariables false
set_option linter.unusedSimpArgs false
namespace EngR
open OwG CatR StxR
open RowG (cellsAll)
open DocR (BlkW)
theorem sill (cd : Int) (w : World) : Calls Tryd.prog 28 #[.int .i64 cd] w fun e w' => e = .returned (.agg #[.slice none 0 0, .slice none 0 0, .slice none 0 0, .slice none 0 0, .slice none 0 0, .slice none 0 0, .int .i64 0, .int .i64 0, .int .i64 0, .int .i64 0, .int .i64 0, .int .i64 0, .slice none 0 0, .int .i64 cd]) ∧ Below w.heap.size w w' := by
  go_enter Tryd.func28, Tryd.ntmps28
  go_wp2_with fail
  refine bodyPost_ret (v := .agg #[.slice none 0 0, .slice none 0 0, .slice none 0 0, .slice none 0 0, .slice none 0 0, .slice none 0 0, .int .i64 0, .int .i64 0, .int .i64 0, .int .i64 0, .int .i64 0, .int .i64 0, .slice none 0 0, .int .i64 cd]) (by simp [results, Tryd.results28, go_sem]) rfl ⟨rfl, ?_⟩
  repeat' first | exact Below.refl _ _ | apply Below.setCell | apply Below.alloc
  all_goals first | omega | (simp; done) | (simp; omega)
set_option maxRecDepth 100000 in
set_option maxHeartbeats 16000000 in
theorem sengine (ma na : Option Addr) (mc cb co cc nc : Nat) (c : Ca) (ns : List ByteArray) (w : World) (hS : c.Small) (hM : Mes ma c.ms.length c.ms w) (hC : Crs (some ⟨cb, co, none⟩) c.cs.length c.cs w) (hlen : ns.length ≤ 1048576) (hN : ∀ e ∈ ns, e.size ≤ 1048576) (hI : Tgs na ns w) :
    Calls Tryd.prog 10 #[.agg #[.slice ma c.ms.length mc, .slice (some ⟨cb, co, none⟩) c.cs.length cc], .slice na ns.length nc] w fun e w' => EnO w (enA c ns) (enS c ns) (enC c ns) e w' := by
  have HRT : Hid (∀ W, Below w.heap.size w W → Calls Tryd.prog 29 #[.agg #[.slice ma c.ms.length mc, .slice (some ⟨cb, co, none⟩) c.cs.length cc]] W fun e w' => e = .returned (.bool (caB c)) ∧ Below W.heap.size W w') := hid_intro (fun W hW => spec_ca _ c W hS ⟨_, _, _, _, rfl, hM.below hW, hC.below hW⟩)
  have HNM : Hid (∀ sa sc W, Srs sa ns W → Calls Tryd.prog 30 #[.slice sa ns.length sc] W fun e w' => e = .returned (.bool (nsB ns)) ∧ Below W.heap.size W w') := hid_intro (fun sa sc W h => spec_srcs sa sc ns W hlen hN h)
  have HSR : Hid (∀ base sa sc W, W.ownsRow base 62 2 (.slice sa ns.length sc) ns.length (cellsAll scells ns) → Srs sa ns W) := hid_intro (fun base sa sc W h => by
    obtain ⟨ao, cap, e, hm⟩ := RowG.own_made (z := tz) s_len h
    cases e
    exact hm.rws)
  have HCP : Hid (caB c = true → ∀ W, Below w.heap.size w W → Calls Tryd.prog 31 #[.agg #[.slice ma c.ms.length mc, .slice (some ⟨cb, co, none⟩) c.cs.length cc]] W fun e w' => CpO W c e w') := hid_intro (fun h W hW => scopy_m ma mc cb co cc c W h (hM.below hW) (hC.below hW))
  have HI := hid_intro hI
  clear hM hC hI hN hS
  obtain ⟨j0, gi, gz0, gz1, gz2⟩ := info_parts infoSo
  have HEA : Hid (enA c ns = if 400 < ns.length then ⟨[], []⟩ else if caB c && nsB ns then c else ⟨[], []⟩) := rfl
  have HES : Hid (enS c ns = if 400 < ns.length then [] else if caB c && nsB ns then ns else []) := rfl
  have HEC : Hid (enC c ns = if 400 < ns.length then 2 else if caB c && nsB ns then 0 else 1) := rfl
  generalize enA c ns = EA at *
  generalize enS c ns = ES at *
  generalize enC c ns = EC at *
  obtain ⟨ml, hml⟩ : ∃ n, n = c.ms.length := ⟨_, rfl⟩
  obtain ⟨cl, hcl⟩ : ∃ n, n = c.cs.length := ⟨_, rfl⟩
  obtain ⟨nl, hnl⟩ : ∃ n, n = ns.length := ⟨_, rfl⟩
  rw [← hml, ← hcl] at HRT HCP ⊢
  rw [← hnl] at HNM HEA HES HEC HSR hlen ⊢
  have HML := hid_intro hml
  have HCL := hid_intro hcl
  have HL := hid_intro hnl
  clear hml hcl hnl
  obtain ⟨W1, hW1⟩ : ∃ W1, W1 = (w.alloc (.cells #[.slice ma ml mc, .slice (some ⟨cb, co, none⟩) cl cc] 25)).alloc (.cells #[.slice none 0 0, .slice none 0 0, .slice none 0 0, .slice none 0 0, .slice none 0 0, .slice none 0 0, .int .i64 0, .int .i64 0, .int .i64 0, .int .i64 0, .int .i64 0, .int .i64 0, .slice none 0 0, .int .i64 0] 43) := ⟨_, rfl⟩
  have HB1 : Hid (Below w.heap.size w W1) := hid_intro (by rw [hW1]; exact ((Below.refl _ _).alloc (Nat.le_refl _) _).alloc (by simp) _)
  have HA1 : Hid (BlkW w.heap.size [.slice ma ml mc, .slice (some ⟨cb, co, none⟩) cl cc] W1) := hid_intro (by rw [hW1]; exact blkW_alloc (BlkW.new w [.slice ma ml mc, .slice (some ⟨cb, co, none⟩) cl cc] 25) _)
  have HR1 : Hid (BlkW (w.heap.size + 1) [.slice none 0 0, .slice none 0 0, .slice none 0 0, .slice none 0 0, .slice none 0 0, .slice none 0 0, .int .i64 0, .int .i64 0, .int .i64 0, .int .i64 0, .int .i64 0, .int .i64 0, .slice none 0 0, .int .i64 0] W1) := hid_intro (by
    rw [hW1]
    have := BlkW.new (w.alloc (.cells #[.slice ma ml mc, .slice (some ⟨cb, co, none⟩) cl cc] 25)) [.slice none 0 0, .slice none 0 0, .slice none 0 0, .slice none 0 0, .slice none 0 0, .slice none 0 0, .int .i64 0, .int .i64 0, .int .i64 0, .int .i64 0, .int .i64 0, .int .i64 0, .slice none 0 0, .int .i64 0] 43
    simpa using this)
  have hs1 : W1.heap.size = w.heap.size + 1 + 1 := by rw [hW1]; simp
  by_cases hbig : 400 < nl
  · have h2 : (400 : Int) < (nl : Int) := by omega
    have HEQ : Hid (EA = ⟨[], []⟩ ∧ ES = [] ∧ EC = 2) := hid_intro ⟨by rw [HEA.out, if_pos hbig], by rw [HES.out, if_pos hbig], by rw [HEC.out, if_pos hbig]⟩
    have HW := hid_intro hW1
    obtain ⟨bR, hbR⟩ : ∃ z, z = w.heap.size + 1 := ⟨_, rfl⟩
    rw [← hbR] at HR1
    have hlo : w.heap.size < bR := by omega
    have HBR := hid_intro hbR
    clear hW1 hs1 hbR
    go_enter Tryd.func10, Tryd.ntmps10
    go_wp2_with fail
    rw [← HW.out, ← HBR.out]
    clear HW HBR
    refine (sill 2 _).mono ?_
    rintro e wz ⟨rfl, hb⟩
    have HBz := hid_intro (HB1.out.trans (hb.mono HB1.out.size))
    have HRz := hid_intro (HR1.out.below hb)
    clear hb HB1 HA1 HR1
    obtain ⟨⟨rl, rk⟩, rf⟩ := HRz.out
    have p0 : wz.cell? ⟨bR, 0, none⟩ = some (.slice none 0 0) := rk 0 (by simp)
    have f0 : wz.frozen? ⟨bR, 0, none⟩ = false := rf 0 (by simp)
    have p1 : wz.cell? ⟨bR, 1, none⟩ = some (.slice none 0 0) := rk 1 (by simp)
    have f1 : wz.frozen? ⟨bR, 1, none⟩ = false := rf 1 (by simp)
    have p2 : wz.cell? ⟨bR, 2, none⟩ = some (.slice none 0 0) := rk 2 (by simp)
    have f2 : wz.frozen? ⟨bR, 2, none⟩ = false := rf 2 (by simp)
    have p3 : wz.cell? ⟨bR, 3, none⟩ = some (.slice none 0 0) := rk 3 (by simp)
    have f3 : wz.frozen? ⟨bR, 3, none⟩ = false := rf 3 (by simp)
    have p4 : wz.cell? ⟨bR, 4, none⟩ = some (.slice none 0 0) := rk 4 (by simp)
    have f4 : wz.frozen? ⟨bR, 4, none⟩ = false := rf 4 (by simp)
    have p5 : wz.cell? ⟨bR, 5, none⟩ = some (.slice none 0 0) := rk 5 (by simp)
    have f5 : wz.frozen? ⟨bR, 5, none⟩ = false := rf 5 (by simp)
    have p6 : wz.cell? ⟨bR, 6, none⟩ = some (.int .i64 0) := rk 6 (by simp)
    have f6 : wz.frozen? ⟨bR, 6, none⟩ = false := rf 6 (by simp)
    have p7 : wz.cell? ⟨bR, 7, none⟩ = some (.int .i64 0) := rk 7 (by simp)
    have f7 : wz.frozen? ⟨bR, 7, none⟩ = false := rf 7 (by simp)
    have p8 : wz.cell? ⟨bR, 8, none⟩ = some (.int .i64 0) := rk 8 (by simp)
    have f8 : wz.frozen? ⟨bR, 8, none⟩ = false := rf 8 (by simp)
    have p9 : wz.cell? ⟨bR, 9, none⟩ = some (.int .i64 0) := rk 9 (by simp)
    have f9 : wz.frozen? ⟨bR, 9, none⟩ = false := rf 9 (by simp)
    have p10 : wz.cell? ⟨bR, 10, none⟩ = some (.int .i64 0) := rk 10 (by simp)
    have f10 : wz.frozen? ⟨bR, 10, none⟩ = false := rf 10 (by simp)
    have p11 : wz.cell? ⟨bR, 11, none⟩ = some (.int .i64 0) := rk 11 (by simp)
    have f11 : wz.frozen? ⟨bR, 11, none⟩ = false := rf 11 (by simp)
    have p12 : wz.cell? ⟨bR, 12, none⟩ = some (.slice none 0 0) := rk 12 (by simp)
    have f12 : wz.frozen? ⟨bR, 12, none⟩ = false := rf 12 (by simp)
    have p13 : wz.cell? ⟨bR, 13, none⟩ = some (.int .i64 0) := rk 13 (by simp)
    have f13 : wz.frozen? ⟨bR, 13, none⟩ = false := rf 13 (by simp)
    have hg := StR.stL_grown bR [.slice none 0 0, .slice none 0 0, .slice none 0 0, .slice none 0 0, .slice none 0 0, .slice none 0 0, .int .i64 0, .int .i64 0, .int .i64 0, .int .i64 0, .int .i64 0, .int .i64 0, .slice none 0 0, .int .i64 2] 0 wz
    have HB9 := hid_intro (HBz.out.grown hg HBz.out.size (fun _ e => by cases e; omega))
    simp only [StR.stL, Nat.zero_add] at HB9
    clear rk rf hg
    go_wp2_with fail
    refine bodyPost_ret (v := .agg #[.slice none 0 0, .slice none 0 0, .slice none 0 0, .slice none 0 0, .slice none 0 0, .slice none 0 0, .int .i64 0, .int .i64 0, .int .i64 0, .int .i64 0, .int .i64 0, .int .i64 0, .slice none 0 0, .int .i64 2]) (by simp [results, Tryd.results10, go_sem, p0, p1, p2, p3, p4, p5, p6, p7, p8, p9, p10, p11, p12, p13]) rfl ?_
    rw [HEQ.out.1, HEQ.out.2.1, HEQ.out.2.2]
    exact en_none 2 HB9.out

  have h2 : ¬ (400 : Int) < (nl : Int) := by omega
  have HEX : Hid (EA = (if caB c && nsB ns then c else ⟨[], []⟩) ∧ ES = (if caB c && nsB ns then ns else []) ∧ EC = (if caB c && nsB ns then 0 else 1)) := hid_intro ⟨by rw [HEA.out, if_neg hbig], by rw [HES.out, if_neg hbig], by rw [HEC.out, if_neg hbig]⟩
  clear HEA HES HEC
  obtain ⟨W2, hW2⟩ : ∃ W2, W2 = W1.alloc (.cells #[] 62) := ⟨_, rfl⟩
  have hal : Below W1.heap.size W1 W2 := by rw [hW2]; exact (Below.refl _ _).alloc (Nat.le_refl _) _
  have HB2 := hid_intro (HB1.out.trans (hal.mono HB1.out.size))
  have HA2 := hid_intro (HA1.out.below hal)
  have HR2 := hid_intro (HR1.out.below hal)
  have HE2 : Hid (W2.ownsRow (w.heap.size + 2) 62 2 (.slice (some ⟨w.heap.size + 1 + 1, 0, none⟩) 0 0) 0 (cellsAll scells (ns.take 0))) := hid_intro (by
    have h := World.ownsRow_made W1 (e := 62) (size := 2) (base := W1.heap.size) #[] 0 (Nat.le_refl _) (by unfold maxLen; omega) (by simp)
    have h2 : (W1.alloc (.cells #[] 62)).ownsRow W1.heap.size 62 2 (.slice (some ⟨W1.heap.size, 0, none⟩) 0 0) 0 [] := by simpa using h
    rw [hW2, show w.heap.size + 1 + 1 = W1.heap.size from hs1.symm]
    exact h2)
  obtain ⟨bR, hbR⟩ : ∃ z, z = w.heap.size + 1 := ⟨_, rfl⟩
  rw [← hbR] at HR2 HE2
  have hlo : w.heap.size < bR := by omega
  have HE3 : Hid (W2.ownsRow (bR + 1) 62 2 (.slice (some ⟨bR + 1, 0, none⟩) 0 0) 0 (cellsAll scells (ns.take 0))) := hid_intro (by have := HE2.out; rwa [show w.heap.size + 2 = bR + 1 by omega] at this)
  have HW := hid_intro hW2
  have HW1 := hid_intro hW1
  have HBR := hid_intro hbR
  clear hW1 hW2 hal hbR hs1 HB1 HA1 HR1 HE2
  go_enter Tryd.func10, Tryd.ntmps10
  go_wp2_with fail
  rw [← HW1.out, ← HW.out]
  have gsz3 : 0 < 2 := by omega
  rw [← HBR.out]
  clear HW HW1 HBR
  go_loopw [5, 6] (fun x z wr => ∃ (k : Nat) (sa : Option Addr) (sc : Nat), k ≤ nl ∧ x = .slice sa k sc ∧ z = .int .i64 k ∧ Hid (wr.ownsRow (bR + 1) 62 2 (.slice sa k sc) k (cellsAll scells (ns.take k))) ∧ Hid (BlkW w.heap.size [.slice ma ml mc, .slice (some ⟨cb, co, none⟩) cl cc] wr) ∧ Hid (BlkW bR [.slice none 0 0, .slice none 0 0, .slice none 0 0, .slice none 0 0, .slice none 0 0, .slice none 0 0, .int .i64 0, .int .i64 0, .int .i64 0, .int .i64 0, .int .i64 0, .int .i64 0, .slice none 0 0, .int .i64 0] wr) ∧ Hid (Below w.heap.size w wr)) (fun _ z _ => nl - (intOf z).toNat)
  case atStart => exact ⟨0, _, _, by omega, rfl, rfl, HE3, HA2, HR2, HB2⟩
  case round =>
    clear HE3 HA2 HR2 HB2
    obtain ⟨k, sa, sc, hk, rfl, rfl, HS, HA, HR, HB⟩ := hrel
    by_cases hlt : k < nl
    · have hlt2 : (k : Int) < (nl : Int) := by omega
      have hkl : k < ns.length := by have := HL.out; omega
      obtain ⟨b, off, rfl, hbl0, c0⟩ := (HI.out.below HB.out).at k hkl
      have HTK := hid_intro (RowG.take_more (z := tz) ns k hkl)
      obtain ⟨X, hX⟩ : ∃ X, X = ns.getD k tz := ⟨_, rfl⟩
      rw [← hX] at c0 HTK
      clear hX
      have sz1 : k + 1 ≤ maxLen := by unfold maxLen; omega
      have sz2 : (k + 1) * 24 ≤ 140737488355328 := by omega
      have hal : Below wr.heap.size wr (wr.alloc (Obj.cells #[.string X, .int .i64 0] 62)) := (Below.refl _ _).alloc (Nat.le_refl _) _
      have hB1 := HB.out.trans (hal.mono HB.out.size)
      have hA1 := HA.out.below hal
      have hR1 := HR.out.below hal
      have hS1 := RowG.own_below HS.out hal
      have hnw : ∀ j u, ([.string X, .int .i64 0] : List Value)[j]? = some u → (wr.alloc (Obj.cells #[.string X, .int .i64 0] 62)).cell? ((⟨wr.heap.size, 0, none⟩ : Addr).add j) = some u := new_cells wr [.string X, .int .i64 0] 62
      have HB1 := hid_intro hB1
      have HA1 := hid_intro hA1
      have HR1 := hid_intro hR1
      have HS1 := hid_intro hS1
      have HNW := hid_intro hnw
      clear hal hB1 hA1 hR1 hS1 hnw
      go_wp2_with (at_builtin; refine wpList_append_own _ rfl _ _ 26 rfl (bR + 1) 62 j0 (.agg #[.string ⟨#[]⟩, .int .i64 0]) 2 24 Tryd.underlying26 gi gz0 gz1 gz2 rfl (by decide) _ _ _ rfl HS1.out ⟨wr.heap.size, 0, none⟩ 1 1 [.string X, .int .i64 0] rfl rfl HNW.out (so_one X 0) sz1 sz2 HR1.out.1.1 ?_)
      intro v9 w9 hown hgrow hne
      have HB9 := hid_intro (HB1.out.grown hgrow HB1.out.size (fun _ e => by have := (HS1.out.lt _ e).1; omega))
      have HR9 := hid_intro (blkW_grown HR1.out hgrow (fun e => by have := (HS1.out.lt _ e.symm).1; omega))
      have HA9 := hid_intro (blkW_grown HA1.out hgrow (fun e => by have := (HS1.out.lt _ e.symm).1; omega))
      have hS9 : w9.ownsRow (bR + 1) 62 2 v9 (k + 1) (cellsAll scells (ns.take (k + 1))) := by
        rw [HTK.out, cellsAll_snoc]
        exact hown
      obtain ⟨sb, sq, rfl⟩ := own_form hown
      have HS9 := hid_intro hS9
      clear hown hgrow hne hS9 HS1 HB1 HA1 HR1 HNW HS HB HA HR
      go_wp2_with fail
      go_roundw
      case rel => exact ⟨k + 1, some ⟨sb, 0, none⟩, sq, by omega, rfl, by go_num, HS9, HA9, HR9, HB9⟩
      case measure => simp [intOf]; omega
    · have hlt2 : ¬ (k : Int) < (nl : Int) := by omega
      obtain rfl : k = nl := by omega
      have HTE : Hid (ns.take k = ns) := hid_intro (by rw [HL.out]; exact List.take_length)
      rw [HTE.out] at HS
      clear HTE
      have a0 := HA.out.1.2 0 (by simp)
      have a1 := HA.out.1.2 1 (by simp)
      have al := HA.out.1.1
      simp only [List.getElem?_cons_zero, List.getElem?_cons_succ] at a0 a1
      go_wp2_with fail
      refine (HRT.out _ HB.out).mono ?_
      rintro e w2 ⟨rfl, hb⟩
      have HB2 := hid_intro (HB.out.trans (hb.mono HB.out.size))
      have HA2 := hid_intro (HA.out.below hb)
      have HR2 := hid_intro (HR.out.below hb)
      have HS2 := hid_intro (RowG.own_below HS.out hb)
      clear hb HB HA HR HS HRT a0 a1 al
      generalize hcb : caB c = q1 at *
      cases q1
      · have HEQ : Hid (EA = ⟨[], []⟩ ∧ ES = [] ∧ EC = 1) := hid_intro (by have := HEX.out; simp only [Bool.false_and, Bool.false_eq_true, if_false] at this; exact this)
        go_wp2_with fail
        refine (sill 1 _).mono ?_
        rintro e wz ⟨rfl, hb⟩
        have HBz := hid_intro (HB2.out.trans (hb.mono HB2.out.size))
        have HRz := hid_intro (HR2.out.below hb)
        clear hb
        obtain ⟨⟨rl, rk⟩, rf⟩ := HRz.out
        have p0 : wz.cell? ⟨bR, 0, none⟩ = some (.slice none 0 0) := rk 0 (by simp)
        have f0 : wz.frozen? ⟨bR, 0, none⟩ = false := rf 0 (by simp)
        have p1 : wz.cell? ⟨bR, 1, none⟩ = some (.slice none 0 0) := rk 1 (by simp)
        have f1 : wz.frozen? ⟨bR, 1, none⟩ = false := rf 1 (by simp)
        have p2 : wz.cell? ⟨bR, 2, none⟩ = some (.slice none 0 0) := rk 2 (by simp)
        have f2 : wz.frozen? ⟨bR, 2, none⟩ = false := rf 2 (by simp)
        have p3 : wz.cell? ⟨bR, 3, none⟩ = some (.slice none 0 0) := rk 3 (by simp)
        have f3 : wz.frozen? ⟨bR, 3, none⟩ = false := rf 3 (by simp)
        have p4 : wz.cell? ⟨bR, 4, none⟩ = some (.slice none 0 0) := rk 4 (by simp)
        have f4 : wz.frozen? ⟨bR, 4, none⟩ = false := rf 4 (by simp)
        have p5 : wz.cell? ⟨bR, 5, none⟩ = some (.slice none 0 0) := rk 5 (by simp)
        have f5 : wz.frozen? ⟨bR, 5, none⟩ = false := rf 5 (by simp)
        have p6 : wz.cell? ⟨bR, 6, none⟩ = some (.int .i64 0) := rk 6 (by simp)
        have f6 : wz.frozen? ⟨bR, 6, none⟩ = false := rf 6 (by simp)
        have p7 : wz.cell? ⟨bR, 7, none⟩ = some (.int .i64 0) := rk 7 (by simp)
        have f7 : wz.frozen? ⟨bR, 7, none⟩ = false := rf 7 (by simp)
        have p8 : wz.cell? ⟨bR, 8, none⟩ = some (.int .i64 0) := rk 8 (by simp)
        have f8 : wz.frozen? ⟨bR, 8, none⟩ = false := rf 8 (by simp)
        have p9 : wz.cell? ⟨bR, 9, none⟩ = some (.int .i64 0) := rk 9 (by simp)
        have f9 : wz.frozen? ⟨bR, 9, none⟩ = false := rf 9 (by simp)
        have p10 : wz.cell? ⟨bR, 10, none⟩ = some (.int .i64 0) := rk 10 (by simp)
        have f10 : wz.frozen? ⟨bR, 10, none⟩ = false := rf 10 (by simp)
        have p11 : wz.cell? ⟨bR, 11, none⟩ = some (.int .i64 0) := rk 11 (by simp)
        have f11 : wz.frozen? ⟨bR, 11, none⟩ = false := rf 11 (by simp)
        have p12 : wz.cell? ⟨bR, 12, none⟩ = some (.slice none 0 0) := rk 12 (by simp)
        have f12 : wz.frozen? ⟨bR, 12, none⟩ = false := rf 12 (by simp)
        have p13 : wz.cell? ⟨bR, 13, none⟩ = some (.int .i64 0) := rk 13 (by simp)
        have f13 : wz.frozen? ⟨bR, 13, none⟩ = false := rf 13 (by simp)
        have hg := StR.stL_grown bR [.slice none 0 0, .slice none 0 0, .slice none 0 0, .slice none 0 0, .slice none 0 0, .slice none 0 0, .int .i64 0, .int .i64 0, .int .i64 0, .int .i64 0, .int .i64 0, .int .i64 0, .slice none 0 0, .int .i64 1] 0 wz
        have HB9 := hid_intro (HBz.out.grown hg HBz.out.size (fun _ e => by cases e; omega))
        simp only [StR.stL, Nat.zero_add] at HB9
        clear rk rf hg
        go_wp2_with fail
        refine bodyPost_ret (v := .agg #[.slice none 0 0, .slice none 0 0, .slice none 0 0, .slice none 0 0, .slice none 0 0, .slice none 0 0, .int .i64 0, .int .i64 0, .int .i64 0, .int .i64 0, .int .i64 0, .int .i64 0, .slice none 0 0, .int .i64 1]) (by simp [results, Tryd.results10, go_sem, p0, p1, p2, p3, p4, p5, p6, p7, p8, p9, p10, p11, p12, p13]) rfl ?_
        rw [HEQ.out.1, HEQ.out.2.1, HEQ.out.2.2]
        exact en_none 1 HB9.out
      go_wp2_with fail
      refine (HNM.out _ _ _ (HSR.out _ _ _ _ HS2.out)).mono ?_
      rintro e w3 ⟨rfl, hb⟩
      have HB3 := hid_intro (HB2.out.trans (hb.mono HB2.out.size))
      have HA3 := hid_intro (HA2.out.below hb)
      have HR3 := hid_intro (HR2.out.below hb)
      have HS3 := hid_intro (RowG.own_below HS2.out hb)
      clear hb HB2 HA2 HR2 HS2 HNM
      generalize hnb : nsB ns = q2 at *
      cases q2
      · have HEQ : Hid (EA = ⟨[], []⟩ ∧ ES = [] ∧ EC = 1) := hid_intro (by have := HEX.out; simp only [Bool.and_false, Bool.false_eq_true, if_false] at this; exact this)
        go_wp2_with fail
        refine (sill 1 _).mono ?_
        rintro e wz ⟨rfl, hb⟩
        have HBz := hid_intro (HB3.out.trans (hb.mono HB3.out.size))
        have HRz := hid_intro (HR3.out.below hb)
        clear hb
        obtain ⟨⟨rl, rk⟩, rf⟩ := HRz.out
        have p0 : wz.cell? ⟨bR, 0, none⟩ = some (.slice none 0 0) := rk 0 (by simp)
        have f0 : wz.frozen? ⟨bR, 0, none⟩ = false := rf 0 (by simp)
        have p1 : wz.cell? ⟨bR, 1, none⟩ = some (.slice none 0 0) := rk 1 (by simp)
        have f1 : wz.frozen? ⟨bR, 1, none⟩ = false := rf 1 (by simp)
        have p2 : wz.cell? ⟨bR, 2, none⟩ = some (.slice none 0 0) := rk 2 (by simp)
        have f2 : wz.frozen? ⟨bR, 2, none⟩ = false := rf 2 (by simp)
        have p3 : wz.cell? ⟨bR, 3, none⟩ = some (.slice none 0 0) := rk 3 (by simp)
        have f3 : wz.frozen? ⟨bR, 3, none⟩ = false := rf 3 (by simp)
        have p4 : wz.cell? ⟨bR, 4, none⟩ = some (.slice none 0 0) := rk 4 (by simp)
        have f4 : wz.frozen? ⟨bR, 4, none⟩ = false := rf 4 (by simp)
        have p5 : wz.cell? ⟨bR, 5, none⟩ = some (.slice none 0 0) := rk 5 (by simp)
        have f5 : wz.frozen? ⟨bR, 5, none⟩ = false := rf 5 (by simp)
        have p6 : wz.cell? ⟨bR, 6, none⟩ = some (.int .i64 0) := rk 6 (by simp)
        have f6 : wz.frozen? ⟨bR, 6, none⟩ = false := rf 6 (by simp)
        have p7 : wz.cell? ⟨bR, 7, none⟩ = some (.int .i64 0) := rk 7 (by simp)
        have f7 : wz.frozen? ⟨bR, 7, none⟩ = false := rf 7 (by simp)
        have p8 : wz.cell? ⟨bR, 8, none⟩ = some (.int .i64 0) := rk 8 (by simp)
        have f8 : wz.frozen? ⟨bR, 8, none⟩ = false := rf 8 (by simp)
        have p9 : wz.cell? ⟨bR, 9, none⟩ = some (.int .i64 0) := rk 9 (by simp)
        have f9 : wz.frozen? ⟨bR, 9, none⟩ = false := rf 9 (by simp)
        have p10 : wz.cell? ⟨bR, 10, none⟩ = some (.int .i64 0) := rk 10 (by simp)
        have f10 : wz.frozen? ⟨bR, 10, none⟩ = false := rf 10 (by simp)
        have p11 : wz.cell? ⟨bR, 11, none⟩ = some (.int .i64 0) := rk 11 (by simp)
        have f11 : wz.frozen? ⟨bR, 11, none⟩ = false := rf 11 (by simp)
        have p12 : wz.cell? ⟨bR, 12, none⟩ = some (.slice none 0 0) := rk 12 (by simp)
        have f12 : wz.frozen? ⟨bR, 12, none⟩ = false := rf 12 (by simp)
        have p13 : wz.cell? ⟨bR, 13, none⟩ = some (.int .i64 0) := rk 13 (by simp)
        have f13 : wz.frozen? ⟨bR, 13, none⟩ = false := rf 13 (by simp)
        have hg := StR.stL_grown bR [.slice none 0 0, .slice none 0 0, .slice none 0 0, .slice none 0 0, .slice none 0 0, .slice none 0 0, .int .i64 0, .int .i64 0, .int .i64 0, .int .i64 0, .int .i64 0, .int .i64 0, .slice none 0 0, .int .i64 1] 0 wz
        have HB9 := hid_intro (HBz.out.grown hg HBz.out.size (fun _ e => by cases e; omega))
        simp only [StR.stL, Nat.zero_add] at HB9
        clear rk rf hg
        go_wp2_with fail
        refine bodyPost_ret (v := .agg #[.slice none 0 0, .slice none 0 0, .slice none 0 0, .slice none 0 0, .slice none 0 0, .slice none 0 0, .int .i64 0, .int .i64 0, .int .i64 0, .int .i64 0, .int .i64 0, .int .i64 0, .slice none 0 0, .int .i64 1]) (by simp [results, Tryd.results10, go_sem, p0, p1, p2, p3, p4, p5, p6, p7, p8, p9, p10, p11, p12, p13]) rfl ?_
        rw [HEQ.out.1, HEQ.out.2.1, HEQ.out.2.2]
        exact en_none 1 HB9.out
      have HEQ : Hid (EA = c ∧ ES = ns ∧ EC = 0) := HEX
      clear HEX
      have a0 := HA3.out.1.2 0 (by simp)
      have a1 := HA3.out.1.2 1 (by simp)
      have al := HA3.out.1.1
      simp only [List.getElem?_cons_zero, List.getElem?_cons_succ] at a0 a1
      go_wp2_with fail
      refine (HCP.out (by trivial) _ HB3.out).mono ?_
      rintro e w4 ⟨vm, va, cp, rfl, hm, hc, hb⟩
      have HB4 := hid_intro (HB3.out.trans (hb.mono HB3.out.size))
      have HR4 := hid_intro (HR3.out.below hb)
      have hs3 : bR + 1 ≤ w3.heap.size := HR3.out.1.1
      have HM4 := hid_intro (mst_of (hm.low hs3))
      have HO4 : Hid (w4.ownsRow (bR + 1) 59 2 (.slice va cl cp) cl (cellsAll Cr.cells c.cs)) := hid_intro (by rw [HCL.out]; exact own_low hc hs3)
      have HS4 := hid_intro (RowG.own_below HS3.out hb)
      obtain ⟨xa, xn, xc, rfl⟩ := HM4.out.form
      rw [← HCL.out]
      clear hm hc hb HB3 HA3 HR3 HS3 HCP hs3 a0 a1 al
      obtain ⟨⟨rl, rk⟩, rf⟩ := HR4.out
      have p0 : w4.cell? ⟨bR, 0, none⟩ = some (.slice none 0 0) := rk 0 (by simp)
      have f0 : w4.frozen? ⟨bR, 0, none⟩ = false := rf 0 (by simp)
      have p1 : w4.cell? ⟨bR, 1, none⟩ = some (.slice none 0 0) := rk 1 (by simp)
      have f1 : w4.frozen? ⟨bR, 1, none⟩ = false := rf 1 (by simp)
      have p2 : w4.cell? ⟨bR, 2, none⟩ = some (.slice none 0 0) := rk 2 (by simp)
      have f2 : w4.frozen? ⟨bR, 2, none⟩ = false := rf 2 (by simp)
      have p3 : w4.cell? ⟨bR, 3, none⟩ = some (.slice none 0 0) := rk 3 (by simp)
      have f3 : w4.frozen? ⟨bR, 3, none⟩ = false := rf 3 (by simp)
      have p4 : w4.cell? ⟨bR, 4, none⟩ = some (.slice none 0 0) := rk 4 (by simp)
      have f4 : w4.frozen? ⟨bR, 4, none⟩ = false := rf 4 (by simp)
      have p5 : w4.cell? ⟨bR, 5, none⟩ = some (.slice none 0 0) := rk 5 (by simp)
      have f5 : w4.frozen? ⟨bR, 5, none⟩ = false := rf 5 (by simp)
      have p6 : w4.cell? ⟨bR, 6, none⟩ = some (.int .i64 0) := rk 6 (by simp)
      have f6 : w4.frozen? ⟨bR, 6, none⟩ = false := rf 6 (by simp)
      have p7 : w4.cell? ⟨bR, 7, none⟩ = some (.int .i64 0) := rk 7 (by simp)
      have f7 : w4.frozen? ⟨bR, 7, none⟩ = false := rf 7 (by simp)
      have p8 : w4.cell? ⟨bR, 8, none⟩ = some (.int .i64 0) := rk 8 (by simp)
      have f8 : w4.frozen? ⟨bR, 8, none⟩ = false := rf 8 (by simp)
      have p9 : w4.cell? ⟨bR, 9, none⟩ = some (.int .i64 0) := rk 9 (by simp)
      have f9 : w4.frozen? ⟨bR, 9, none⟩ = false := rf 9 (by simp)
      have p10 : w4.cell? ⟨bR, 10, none⟩ = some (.int .i64 0) := rk 10 (by simp)
      have f10 : w4.frozen? ⟨bR, 10, none⟩ = false := rf 10 (by simp)
      have p11 : w4.cell? ⟨bR, 11, none⟩ = some (.int .i64 0) := rk 11 (by simp)
      have f11 : w4.frozen? ⟨bR, 11, none⟩ = false := rf 11 (by simp)
      have p12 : w4.cell? ⟨bR, 12, none⟩ = some (.slice none 0 0) := rk 12 (by simp)
      have f12 : w4.frozen? ⟨bR, 12, none⟩ = false := rf 12 (by simp)
      have p13 : w4.cell? ⟨bR, 13, none⟩ = some (.int .i64 0) := rk 13 (by simp)
      have f13 : w4.frozen? ⟨bR, 13, none⟩ = false := rf 13 (by simp)
      have hg := StR.stL_grown bR [.slice xa xn xc, .slice va cl cp, .slice sa k sc, .slice none 0 0, .slice none 0 0, .slice none 0 0, .int .i64 0, .int .i64 0, .int .i64 0, .int .i64 0, .int .i64 0, .int .i64 0, .slice none 0 0, .int .i64 0] 0 w4
      have HB9 := hid_intro (HB4.out.grown hg HB4.out.size (fun _ e => by cases e; omega))
      have HO9 := hid_intro (own_keepG HO4.out hg (by omega))
      have HS9 := hid_intro (own_keepG HS4.out hg (by omega))
      have HM9 := hid_intro (HM4.out.far hg (by omega))
      simp only [StR.stL, Nat.zero_add] at HB9 HO9 HM9 HS9
      clear rk rf hg HB4 HR4 HO4 HM4 HS4
      go_wp2_with fail
      refine bodyPost_ret (v := .agg #[.slice xa xn xc, .slice va cl cp, .slice sa k sc, .slice none 0 0, .slice none 0 0, .slice none 0 0, .int .i64 0, .int .i64 0, .int .i64 0, .int .i64 0, .int .i64 0, .int .i64 0, .slice none 0 0, .int .i64 0]) (by simp [results, Tryd.results10, go_sem, p0, p1, p2, p3, p4, p5, p6, p7, p8, p9, p10, p11, p12, p13]) rfl ?_
      rw [HEQ.out.1, HEQ.out.2.1, HEQ.out.2.2]
      refine ⟨_, va, cp, sa, sc, by rw [← HCL.out, ← HL.out], (show MsO _ _ _ _ from ⟨_, HM9.out.1⟩).low (by omega), ?_, ?_, HB9.out⟩
      · rw [← HCL.out]
        exact own_low HO9.out (by omega)
      · rw [← HL.out]
        exact own_low HS9.out (by omega)
end EngR
end Go.Proofs.YtlhghjjgpdkekaaDoor
