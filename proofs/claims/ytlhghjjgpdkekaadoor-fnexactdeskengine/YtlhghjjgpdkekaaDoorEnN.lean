/-
  impl.EngineNew: what comes out, all of it one's own. The conditions: sizes of at most 1048576; the program's variable holds its error.
-/
import Derived.Test.YtlhghjjgpdkekaaDoorCpS
import Derived.Test.YtlhghjjgpdkekaaDoorSrB
namespace Go.Proofs.YtlhghjjgpdkekaaDoor
open Go.ChangeShapes Go.WideShapes Go.ChangeAt Go.RowKit
set_option linter.unusedVariables false
set_option linter.unusedSimpArgs false
namespace EngR
open OwG CatR StxR
open RowG (cellsAll)
open DocR (BlkW)
/-- What a new engine is: its catalog, its sources, the code. -/
def enC (c : Ca) (ns : List ByteArray) : Int := if 400 < ns.length then 2 else if caB c && nsB ns then 0 else 1
def enA (c : Ca) (ns : List ByteArray) : Ca := if 400 < ns.length then ⟨[], []⟩ else if caB c && nsB ns then c else ⟨[], []⟩
def enS (c : Ca) (ns : List ByteArray) : List ByteArray := if 400 < ns.length then [] else if caB c && nsB ns then ns else []
/-- An engine that came out, all of it one's own. -/
def EnO (w : World) (c : Ca) (ns : List ByteArray) (cd : Int) (e : Ending) (w' : World) : Prop := ∃ vm va cp sa sc, e = .returned (.agg #[vm, .slice va c.cs.length cp, .slice sa ns.length sc, .slice none 0 0, .slice none 0 0, .slice none 0 0, .int .i64 0, .int .i64 0, .int .i64 0, .int .i64 0, .int .i64 0, .int .i64 0, .slice none 0 0, .int .i64 cd]) ∧ MsO w.heap.size vm c.ms w' ∧ w'.ownsRow w.heap.size 59 2 (.slice va c.cs.length cp) c.cs.length (cellsAll Cr.cells c.cs) ∧ w'.ownsRow w.heap.size 62 2 (.slice sa ns.length sc) ns.length (cellsAll scells ns) ∧ Below w.heap.size w w'
theorem en_none {w w' : World} (cd : Int) (hb : Below w.heap.size w w') : EnO w ⟨[], []⟩ [] cd (.returned (.agg #[.slice none 0 0, .slice none 0 0, .slice none 0 0, .slice none 0 0, .slice none 0 0, .slice none 0 0, .int .i64 0, .int .i64 0, .int .i64 0, .int .i64 0, .int .i64 0, .int .i64 0, .slice none 0 0, .int .i64 cd])) w' :=
  ⟨_, none, 0, none, 0, rfl, mso_nil _ _, World.ownsRow_nil _ _ _ _, World.ownsRow_nil _ _ _ _, hb⟩
theorem infoSo : (Tryd.prog.info? 62).map (fun i => (i.zero, i.size, i.bytes)) = some (some (.agg #[.string ⟨#[]⟩, .int .i64 0]), 2, 24) := by kernel_rfl
theorem so_one (x : ByteArray) (y : Int) : ∀ u ∈ [Value.string x, Value.int .i64 y], u.oneCell' = true := cr_one x y
/-- A list of meters of one's own whose blocks lie below a number. -/
def MsT (base top : Nat) (v : Value) (ms : List Me) (W : World) : Prop := MsL base top v ms W ∧ ∀ b, v.ownBlock = some b → b < top
theorem mst_of {base : Nat} {v : Value} {ms : List Me} {W : World} (h : MsO base v ms W) : MsT base W.heap.size v ms W := by
  have h1 := h.lim
  refine ⟨h1, fun b hb => ?_⟩
  obtain ⟨xs, _, x2, _⟩ := h1
  exact (x2.lt b hb).2
theorem MsT.above {base top g : Nat} {v : Value} {ms : List Me} {W W' : World} (h : MsT base top v ms W) (hg : W.grownBy W' (some g)) (ht : top ≤ g) : MsT base top v ms W' := by
  obtain ⟨⟨xs, x1, x2, x3, x4, x5⟩, h2⟩ := h
  refine ⟨⟨xs, x1, own_keepO x2 hg (fun b e => by have := h2 b e; simp; omega), fun x hx => own_keepO (x3 x hx) hg (fun b e => by have := x5 x hx b e; simp; omega), x4, x5⟩, h2⟩
theorem MsT.below {base top : Nat} {v : Value} {ms : List Me} {W W' : World} (h : MsT base top v ms W) (hb : Below W.heap.size W W') : MsT base top v ms W' := ⟨h.1.below hb, h.2⟩
theorem MsT.far {base top g : Nat} {v : Value} {ms : List Me} {W W' : World} (h : MsT base top v ms W) (hg : W.grownBy W' (some g)) (hlt : g < base) : MsT base top v ms W' := ⟨h.1.far hg hlt, h.2⟩
theorem MsT.other {base top base' e size n : Nat} {v v' : Value} {ms : List Me} {xs' : List Value} {W W' : World} (h : MsT base top v ms W) (ho : W.ownsRow base' e size v' n xs') (hg : W.grownBy W' v'.ownBlock) (h1 : e ≠ 39) (h2 : e ≠ 57) : MsT base top v ms W' := by
  obtain ⟨⟨xs, q1, q2, q3, q4, q5⟩, q6⟩ := h
  exact ⟨⟨xs, q1, own_keepO q2 hg (own_apart q2 ho h1), fun x hx => own_keepO (q3 x hx) hg (own_apart (q3 x hx) ho h2), q4, q5⟩, q6⟩
theorem MsT.form {base top : Nat} {v : Value} {ms : List Me} {W : World} (h : MsT base top v ms W) : ∃ a n c, v = .slice a n c := by
  obtain ⟨ao, cap, e, _⟩ := (show MsO base v ms W from ⟨_, h.1⟩).mes
  exact ⟨_, _, _, e⟩
set_option maxRecDepth 100000 in
set_option maxHeartbeats 16000000 in
theorem iengine (ma ca na : Option Addr) (mc cc nc : Nat) (c : Ca) (ns : List ByteArray) (w : World) (hS : c.Small) (hM : Mes ma c.ms.length c.ms w) (hC : Crs ca c.cs.length c.cs w) (hlen : ns.length ≤ 1048576) (hN : ∀ e ∈ ns, e.size ≤ 1048576) (hI : Tgs na ns w) (hL : Laid w) :
    Calls Tryd.prog 11 #[.agg #[.slice ma c.ms.length mc, .slice ca c.cs.length cc], .slice na ns.length nc] w fun e w' => EnO w (enA c ns) (enS c ns) (enC c ns) e w' := by
  have HRT : Hid (∀ W, Below w.heap.size w W → Calls Tryd.prog 32 #[.agg #[.slice ma c.ms.length mc, .slice ca c.cs.length cc]] W fun e w' => e = .returned (.bool (caB c)) ∧ Below W.heap.size W w') := hid_intro (fun W hW => impl_ca _ c W hS ⟨_, _, _, _, rfl, hM.below hW, hC.below hW⟩ (hL.below hW))
  have HNM : Hid (∀ W, Below w.heap.size w W → Calls Tryd.prog 33 #[.slice na ns.length nc] W fun e w' => e = .returned (.bool (nsB ns)) ∧ Below W.heap.size W w') := hid_intro (fun W hW => impl_names na nc ns W hlen hN (hI.below hW))
  have HCP : Hid (caB c = true → ∀ W, Below w.heap.size w W → Calls Tryd.prog 34 #[.agg #[.slice ma c.ms.length mc, .slice ca c.cs.length cc]] W fun e w' => CpO W c e w') := hid_intro (fun h W hW => icopy_m ma mc ca cc c W h (hM.below hW) (hC.below hW))
  have HI := hid_intro hI
  have HNS := hid_intro hN
  clear hM hC hI hN hS hL
  obtain ⟨j0, gi, gz0, gz1, gz2⟩ := info_parts infoSo
  have HEA : Hid (enA c ns = if 400 < ns.length then ⟨[], []⟩ else if caB c && nsB ns then c else ⟨[], []⟩) := rfl
  have HES : Hid (enS c ns = if 400 < ns.length then [] else if caB c && nsB ns then ns else []) := rfl
  have HEC : Hid (enC c ns = if 400 < ns.length then 2 else if caB c && nsB ns then 0 else 1) := rfl
  have HNL : Hid (nsB ns = true → ns.length ≤ 3) := hid_intro (fun h => (nsB_iff.1 h).1.2)
  generalize enA c ns = EA at *
  generalize enS c ns = ES at *
  generalize enC c ns = EC at *
  obtain ⟨ml, hml⟩ : ∃ n, n = c.ms.length := ⟨_, rfl⟩
  obtain ⟨cl, hcl⟩ : ∃ n, n = c.cs.length := ⟨_, rfl⟩
  obtain ⟨nl, hnl⟩ : ∃ n, n = ns.length := ⟨_, rfl⟩
  rw [← hml, ← hcl] at HRT HCP ⊢
  rw [← hnl] at HNM HEA HES HEC HNL hlen ⊢
  have HML := hid_intro hml
  have HCL := hid_intro hcl
  have HL := hid_intro hnl
  clear hml hcl hnl
  obtain ⟨W1, hW1⟩ : ∃ W1, W1 = (w.alloc (.cells #[.slice ma ml mc, .slice ca cl cc] 25)).alloc (.cells #[.slice none 0 0, .slice none 0 0, .slice none 0 0, .slice none 0 0, .slice none 0 0, .slice none 0 0, .int .i64 0, .int .i64 0, .int .i64 0, .int .i64 0, .int .i64 0, .int .i64 0, .slice none 0 0, .int .i64 0] 43) := ⟨_, rfl⟩
  have HB1 : Hid (Below w.heap.size w W1) := hid_intro (by rw [hW1]; exact ((Below.refl _ _).alloc (Nat.le_refl _) _).alloc (by simp) _)
  have HA1 : Hid (BlkW w.heap.size [.slice ma ml mc, .slice ca cl cc] W1) := hid_intro (by rw [hW1]; exact blkW_alloc (BlkW.new w [.slice ma ml mc, .slice ca cl cc] 25) _)
  have HR1 : Hid (BlkW (w.heap.size + 1) [.slice none 0 0, .slice none 0 0, .slice none 0 0, .slice none 0 0, .slice none 0 0, .slice none 0 0, .int .i64 0, .int .i64 0, .int .i64 0, .int .i64 0, .int .i64 0, .int .i64 0, .slice none 0 0, .int .i64 0] W1) := hid_intro (by
    rw [hW1]
    have := BlkW.new (w.alloc (.cells #[.slice ma ml mc, .slice ca cl cc] 25)) [.slice none 0 0, .slice none 0 0, .slice none 0 0, .slice none 0 0, .slice none 0 0, .slice none 0 0, .int .i64 0, .int .i64 0, .int .i64 0, .int .i64 0, .int .i64 0, .int .i64 0, .slice none 0 0, .int .i64 0] 43
    simpa using this)
  obtain ⟨bR, hbR⟩ : ∃ z, z = w.heap.size + 1 := ⟨_, rfl⟩
  rw [← hbR] at HR1
  have hlo : w.heap.size < bR := by omega
  have hs1 : bR + 1 ≤ W1.heap.size := HR1.out.1.1
  have HW := hid_intro hW1
  have HBR := hid_intro hbR
  clear hW1 hbR
  by_cases hbig : 400 < nl
  · have h2 : (400 : Int) < (nl : Int) := by omega
    have HEX : Hid (EA = ⟨[], []⟩ ∧ ES = [] ∧ EC = 2) := hid_intro ⟨by rw [HEA.out, if_pos hbig], by rw [HES.out, if_pos hbig], by rw [HEC.out, if_pos hbig]⟩
    go_enter Tryd.func11, Tryd.ntmps11
    go_wp2_with fail
    refine bodyPost_ret (v := .agg #[.slice none 0 0, .slice none 0 0, .slice none 0 0, .slice none 0 0, .slice none 0 0, .slice none 0 0, .int .i64 0, .int .i64 0, .int .i64 0, .int .i64 0, .int .i64 0, .int .i64 0, .slice none 0 0, .int .i64 2]) (by simp [results, Tryd.results11, go_sem]) rfl ?_
    rw [HEX.out.1, HEX.out.2.1, HEX.out.2.2]
    refine en_none 2 ?_
    repeat' first | exact Below.refl _ _ | apply Below.setCell | apply Below.alloc
    all_goals first | omega | (simp; done) | (simp; omega)
  have h2 : ¬ (400 : Int) < (nl : Int) := by omega
  have HEX : Hid (EA = (if caB c && nsB ns then c else ⟨[], []⟩) ∧ ES = (if caB c && nsB ns then ns else []) ∧ EC = (if caB c && nsB ns then 0 else 1)) := hid_intro ⟨by rw [HEA.out, if_neg hbig], by rw [HES.out, if_neg hbig], by rw [HEC.out, if_neg hbig]⟩
  clear HEA HES HEC
  have a0 := HA1.out.1.2 0 (by simp)
  have a1 := HA1.out.1.2 1 (by simp)
  have al := HA1.out.1.1
  simp only [List.getElem?_cons_zero, List.getElem?_cons_succ] at a0 a1
  go_enter Tryd.func11, Tryd.ntmps11
  go_wp2_with fail
  rw [← HW.out, ← HBR.out]
  clear HW HBR
  refine (HRT.out _ HB1.out).mono ?_
  rintro e w2 ⟨rfl, hb⟩
  have HB2 := hid_intro (HB1.out.trans (hb.mono HB1.out.size))
  have HA2 := hid_intro (HA1.out.below hb)
  have HR2 := hid_intro (HR1.out.below hb)
  have hs2 : bR + 1 ≤ w2.heap.size := by have := hb.size; omega
  clear hb HB1 HA1 HR1 HRT a0 a1 al hs1
  generalize hcb : caB c = q1 at *
  cases q1
  · have HEQ : Hid (EA = ⟨[], []⟩ ∧ ES = [] ∧ EC = 1) := hid_intro (by have := HEX.out; simp only [Bool.false_and, Bool.false_eq_true, if_false] at this; exact this)
    obtain ⟨⟨rl, rk⟩, rf⟩ := HR2.out
    have p0 : w2.cell? ⟨bR, 0, none⟩ = some (.slice none 0 0) := rk 0 (by simp)
    have f0 : w2.frozen? ⟨bR, 0, none⟩ = false := rf 0 (by simp)
    have p1 : w2.cell? ⟨bR, 1, none⟩ = some (.slice none 0 0) := rk 1 (by simp)
    have f1 : w2.frozen? ⟨bR, 1, none⟩ = false := rf 1 (by simp)
    have p2 : w2.cell? ⟨bR, 2, none⟩ = some (.slice none 0 0) := rk 2 (by simp)
    have f2 : w2.frozen? ⟨bR, 2, none⟩ = false := rf 2 (by simp)
    have p3 : w2.cell? ⟨bR, 3, none⟩ = some (.slice none 0 0) := rk 3 (by simp)
    have f3 : w2.frozen? ⟨bR, 3, none⟩ = false := rf 3 (by simp)
    have p4 : w2.cell? ⟨bR, 4, none⟩ = some (.slice none 0 0) := rk 4 (by simp)
    have f4 : w2.frozen? ⟨bR, 4, none⟩ = false := rf 4 (by simp)
    have p5 : w2.cell? ⟨bR, 5, none⟩ = some (.slice none 0 0) := rk 5 (by simp)
    have f5 : w2.frozen? ⟨bR, 5, none⟩ = false := rf 5 (by simp)
    have p6 : w2.cell? ⟨bR, 6, none⟩ = some (.int .i64 0) := rk 6 (by simp)
    have f6 : w2.frozen? ⟨bR, 6, none⟩ = false := rf 6 (by simp)
    have p7 : w2.cell? ⟨bR, 7, none⟩ = some (.int .i64 0) := rk 7 (by simp)
    have f7 : w2.frozen? ⟨bR, 7, none⟩ = false := rf 7 (by simp)
    have p8 : w2.cell? ⟨bR, 8, none⟩ = some (.int .i64 0) := rk 8 (by simp)
    have f8 : w2.frozen? ⟨bR, 8, none⟩ = false := rf 8 (by simp)
    have p9 : w2.cell? ⟨bR, 9, none⟩ = some (.int .i64 0) := rk 9 (by simp)
    have f9 : w2.frozen? ⟨bR, 9, none⟩ = false := rf 9 (by simp)
    have p10 : w2.cell? ⟨bR, 10, none⟩ = some (.int .i64 0) := rk 10 (by simp)
    have f10 : w2.frozen? ⟨bR, 10, none⟩ = false := rf 10 (by simp)
    have p11 : w2.cell? ⟨bR, 11, none⟩ = some (.int .i64 0) := rk 11 (by simp)
    have f11 : w2.frozen? ⟨bR, 11, none⟩ = false := rf 11 (by simp)
    have p12 : w2.cell? ⟨bR, 12, none⟩ = some (.slice none 0 0) := rk 12 (by simp)
    have f12 : w2.frozen? ⟨bR, 12, none⟩ = false := rf 12 (by simp)
    have p13 : w2.cell? ⟨bR, 13, none⟩ = some (.int .i64 0) := rk 13 (by simp)
    have f13 : w2.frozen? ⟨bR, 13, none⟩ = false := rf 13 (by simp)
    have hg := StR.stL_grown bR [.slice none 0 0, .slice none 0 0, .slice none 0 0, .slice none 0 0, .slice none 0 0, .slice none 0 0, .int .i64 0, .int .i64 0, .int .i64 0, .int .i64 0, .int .i64 0, .int .i64 0, .slice none 0 0, .int .i64 1] 0 w2
    have HB9 := hid_intro (HB2.out.grown hg HB2.out.size (fun _ e => by cases e; omega))
    simp only [StR.stL, Nat.zero_add] at HB9
    clear rk rf hg
    go_wp2_with fail
    refine bodyPost_ret (v := .agg #[.slice none 0 0, .slice none 0 0, .slice none 0 0, .slice none 0 0, .slice none 0 0, .slice none 0 0, .int .i64 0, .int .i64 0, .int .i64 0, .int .i64 0, .int .i64 0, .int .i64 0, .slice none 0 0, .int .i64 1]) (by simp [results, Tryd.results11, go_sem, p0, p1, p2, p3, p4, p5, p6, p7, p8, p9, p10, p11, p12, p13]) rfl ?_
    rw [HEQ.out.1, HEQ.out.2.1, HEQ.out.2.2]
    exact en_none 1 HB9.out
  go_wp2_with fail
  refine (HNM.out _ HB2.out).mono ?_
  rintro e w3 ⟨rfl, hb⟩
  have HB3 := hid_intro (HB2.out.trans (hb.mono HB2.out.size))
  have HA3 := hid_intro (HA2.out.below hb)
  have HR3 := hid_intro (HR2.out.below hb)
  have hs3 : bR + 1 ≤ w3.heap.size := by have := hb.size; omega
  clear hb HB2 HA2 HR2 HNM hs2
  generalize hnb : nsB ns = q2 at *
  cases q2
  · have HEQ : Hid (EA = ⟨[], []⟩ ∧ ES = [] ∧ EC = 1) := hid_intro (by have := HEX.out; simp only [Bool.and_false, Bool.false_eq_true, if_false] at this; exact this)
    obtain ⟨⟨rl, rk⟩, rf⟩ := HR3.out
    have p0 : w3.cell? ⟨bR, 0, none⟩ = some (.slice none 0 0) := rk 0 (by simp)
    have f0 : w3.frozen? ⟨bR, 0, none⟩ = false := rf 0 (by simp)
    have p1 : w3.cell? ⟨bR, 1, none⟩ = some (.slice none 0 0) := rk 1 (by simp)
    have f1 : w3.frozen? ⟨bR, 1, none⟩ = false := rf 1 (by simp)
    have p2 : w3.cell? ⟨bR, 2, none⟩ = some (.slice none 0 0) := rk 2 (by simp)
    have f2 : w3.frozen? ⟨bR, 2, none⟩ = false := rf 2 (by simp)
    have p3 : w3.cell? ⟨bR, 3, none⟩ = some (.slice none 0 0) := rk 3 (by simp)
    have f3 : w3.frozen? ⟨bR, 3, none⟩ = false := rf 3 (by simp)
    have p4 : w3.cell? ⟨bR, 4, none⟩ = some (.slice none 0 0) := rk 4 (by simp)
    have f4 : w3.frozen? ⟨bR, 4, none⟩ = false := rf 4 (by simp)
    have p5 : w3.cell? ⟨bR, 5, none⟩ = some (.slice none 0 0) := rk 5 (by simp)
    have f5 : w3.frozen? ⟨bR, 5, none⟩ = false := rf 5 (by simp)
    have p6 : w3.cell? ⟨bR, 6, none⟩ = some (.int .i64 0) := rk 6 (by simp)
    have f6 : w3.frozen? ⟨bR, 6, none⟩ = false := rf 6 (by simp)
    have p7 : w3.cell? ⟨bR, 7, none⟩ = some (.int .i64 0) := rk 7 (by simp)
    have f7 : w3.frozen? ⟨bR, 7, none⟩ = false := rf 7 (by simp)
    have p8 : w3.cell? ⟨bR, 8, none⟩ = some (.int .i64 0) := rk 8 (by simp)
    have f8 : w3.frozen? ⟨bR, 8, none⟩ = false := rf 8 (by simp)
    have p9 : w3.cell? ⟨bR, 9, none⟩ = some (.int .i64 0) := rk 9 (by simp)
    have f9 : w3.frozen? ⟨bR, 9, none⟩ = false := rf 9 (by simp)
    have p10 : w3.cell? ⟨bR, 10, none⟩ = some (.int .i64 0) := rk 10 (by simp)
    have f10 : w3.frozen? ⟨bR, 10, none⟩ = false := rf 10 (by simp)
    have p11 : w3.cell? ⟨bR, 11, none⟩ = some (.int .i64 0) := rk 11 (by simp)
    have f11 : w3.frozen? ⟨bR, 11, none⟩ = false := rf 11 (by simp)
    have p12 : w3.cell? ⟨bR, 12, none⟩ = some (.slice none 0 0) := rk 12 (by simp)
    have f12 : w3.frozen? ⟨bR, 12, none⟩ = false := rf 12 (by simp)
    have p13 : w3.cell? ⟨bR, 13, none⟩ = some (.int .i64 0) := rk 13 (by simp)
    have f13 : w3.frozen? ⟨bR, 13, none⟩ = false := rf 13 (by simp)
    have hg := StR.stL_grown bR [.slice none 0 0, .slice none 0 0, .slice none 0 0, .slice none 0 0, .slice none 0 0, .slice none 0 0, .int .i64 0, .int .i64 0, .int .i64 0, .int .i64 0, .int .i64 0, .int .i64 0, .slice none 0 0, .int .i64 1] 0 w3
    have HB9 := hid_intro (HB3.out.grown hg HB3.out.size (fun _ e => by cases e; omega))
    simp only [StR.stL, Nat.zero_add] at HB9
    clear rk rf hg
    go_wp2_with fail
    refine bodyPost_ret (v := .agg #[.slice none 0 0, .slice none 0 0, .slice none 0 0, .slice none 0 0, .slice none 0 0, .slice none 0 0, .int .i64 0, .int .i64 0, .int .i64 0, .int .i64 0, .int .i64 0, .int .i64 0, .slice none 0 0, .int .i64 1]) (by simp [results, Tryd.results11, go_sem, p0, p1, p2, p3, p4, p5, p6, p7, p8, p9, p10, p11, p12, p13]) rfl ?_
    rw [HEQ.out.1, HEQ.out.2.1, HEQ.out.2.2]
    exact en_none 1 HB9.out
  have hn3 := HNL.out (by trivial)
  have HEQ : Hid (EA = c ∧ ES = ns ∧ EC = 0) := HEX
  clear HEX HNL
  have a0 := HA3.out.1.2 0 (by simp)
  have a1 := HA3.out.1.2 1 (by simp)
  have al := HA3.out.1.1
  simp only [List.getElem?_cons_zero, List.getElem?_cons_succ] at a0 a1
  go_wp2_with fail
  refine (HCP.out (by trivial) _ HB3.out).mono ?_
  rintro e w4 ⟨vm, va, cp, rfl, hm, hc, hb⟩
  have HB4 := hid_intro (HB3.out.trans (hb.mono HB3.out.size))
  have HR4 := hid_intro (HR3.out.below hb)
  have HM4 := hid_intro (mst_of (hm.low hs3))
  have HO4 : Hid (w4.ownsRow (bR + 1) 59 2 (.slice va cl cp) cl (cellsAll Cr.cells c.cs)) := hid_intro (by rw [HCL.out]; exact own_low hc hs3)
  have HOB : Hid (∀ b, (Value.slice va cl cp).ownBlock = some b → b < w4.heap.size) := hid_intro (fun b e => (HO4.out.lt b e).2)
  have hlo2 : bR < w4.heap.size := HR4.out.1.1
  obtain ⟨xa, xn, xc, rfl⟩ := HM4.out.form
  rw [← HCL.out]
  clear hm hc hb HB3 HA3 HR3 HCP hs3 a0 a1 al
  go_wp2_with fail
  obtain ⟨W5, hW5⟩ : ∃ z, z = w4.alloc (.cells #[.slice xa xn xc, .slice va cl cp, .slice none 0 0, .slice none 0 0, .slice none 0 0, .slice none 0 0, .int .i64 0] 31) := ⟨_, rfl⟩
  have hal : Below w4.heap.size w4 W5 := by rw [hW5]; exact (Below.refl _ _).alloc (Nat.le_refl _) _
  have HV5 : Hid (BlkW w4.heap.size [.slice xa xn xc, .slice va cl cp, .slice none 0 0, .slice none 0 0, .slice none 0 0, .slice none 0 0, .int .i64 0] W5) := hid_intro (by rw [hW5]; exact BlkW.new w4 [.slice xa xn xc, .slice va cl cp, .slice none 0 0, .slice none 0 0, .slice none 0 0, .slice none 0 0, .int .i64 0] 31)
  have HB5 := hid_intro (HB4.out.trans (hal.mono HB4.out.size))
  have HR5 := hid_intro (HR4.out.below hal)
  have HM5 := hid_intro (HM4.out.below hal)
  have HO5 := hid_intro (RowG.own_below HO4.out hal)
  obtain ⟨bV, hbV⟩ : ∃ z, z = w4.heap.size := ⟨_, rfl⟩
  rw [← hbV] at HV5 HOB HM5 hlo2 ⊢
  rw [← hW5]
  clear hbV hW5 hal HB4 HR4 HM4 HO4
  have gsz3 : 0 < 2 := by omega
  go_loopw [26] (fun z wr => ∃ (k : Nat) (sa : Option Addr) (sc : Nat), k ≤ nl ∧ z = .int .i64 k ∧ Hid (wr.ownsRow (bV + 1) 62 2 (.slice sa k sc) k (cellsAll scells (ns.take k))) ∧ Hid (MsT (bR + 1) bV (.slice xa xn xc) c.ms wr) ∧ Hid (wr.ownsRow (bR + 1) 59 2 (.slice va cl cp) cl (cellsAll Cr.cells c.cs)) ∧ Hid (BlkW bV [.slice xa xn xc, .slice va cl cp, .slice sa k sc, .slice none 0 0, .slice none 0 0, .slice none 0 0, .int .i64 0] wr) ∧ Hid (BlkW bR [.slice none 0 0, .slice none 0 0, .slice none 0 0, .slice none 0 0, .slice none 0 0, .slice none 0 0, .int .i64 0, .int .i64 0, .int .i64 0, .int .i64 0, .int .i64 0, .int .i64 0, .slice none 0 0, .int .i64 0] wr) ∧ Hid (Below w.heap.size w wr)) (fun z _ => nl - (intOf z).toNat)
  case atStart => exact ⟨0, none, 0, by omega, rfl, hid_intro (World.ownsRow_nil _ _ _ _), HM5, HO5, HV5, HR5, HB5⟩
  case round =>
    clear HV5 HB5 HR5 HM5 HO5
    obtain ⟨k, sa, sc, hk, rfl, HS, HM, HO, HV, HR, HB⟩ := hrel
    by_cases hlt : k < nl
    · have hlt2 : (k : Int) < (nl : Int) := by omega
      have hkl : k < ns.length := by have := HL.out; omega
      obtain ⟨b, off, rfl, hbl0, c0⟩ := (HI.out.below HB.out).at k hkl
      have hsz := HNS.out _ (RowG.getD_mem (z := tz) ns k hkl)
      have HTK := hid_intro (RowG.take_more (z := tz) ns k hkl)
      generalize ns.getD k tz = X at *
      have HCL2 := hid_intro (fun W => CloneR.clone_any X W (by omega))
      have sz1 : k + 1 ≤ maxLen := by unfold maxLen; omega
      have sz2 : (k + 1) * 24 ≤ 140737488355328 := by omega
      go_wp2_with fail
      have hZ0 : Below wr.heap.size wr wr.drew := (Below.refl _ _).drew
      have hB0 := HB.out.trans (hZ0.mono HB.out.size)
      have hR0 := HR.out.below hZ0
      have hV0 := HV.out.below hZ0
      have hM0 := HM.out.below hZ0
      have hO0 := RowG.own_below HO.out hZ0
      have hS0 := RowG.own_below HS.out hZ0
      clear hZ0
      refine wp_region_held_drew (S := (fun _ => True)) (by kernel_rfl) trivial (fun hHeld => ?_)
      generalize wr.drew = kd at *
      refine wpAnyH_take (i := 0) (oi := { dst := some 30, op := Op.fieldAddr 31 (Operand.tmp 5) 1, type := 0, pos := "l10_engine.go:342", after := #[], guard := none }) (v := ?_) rfl (by kernel_rfl) (by kernel_rfl) (by kernel_rfl) (fun _ _ _ h => h) (Or.inl ⟨by rfl, ?_⟩) (by assumption) ?_
      rotate_left
      · (intro w hSw; (try dsimp only at hSw); go_simp) <;> with_reducible rfl
      try simp only [Act.put, List.setIfInBounds_toArray, List.set_cons_zero, List.set_cons_succ]
      refine wpAnyH_take (i := 2) (oi := { dst := some 32, op := Op.move (Operand.tmp 7), type := 9, pos := "l10_engine.go:342", after := #[], guard := none }) (v := ?_) rfl (by kernel_rfl) (by kernel_rfl) (by kernel_rfl) (fun _ _ _ h => h) (Or.inl ⟨by rfl, ?_⟩) (by assumption) ?_
      rotate_left
      · (intro w hSw; (try dsimp only at hSw); go_simp) <;> with_reducible rfl
      try simp only [Act.put, List.setIfInBounds_toArray, List.set_cons_zero, List.set_cons_succ]
      refine wpAnyH_ready (rs := [1, 3]) (by kernel_rfl) (by simp) ?_
      refine AllReadyH.cons (o := { dst := some 31, op := Op.load 26 (Operand.tmp 30), type := 26, pos := "l10_engine.go:342", after := #[{ on := 0, ground := Ground.data }], guard := none }) rfl (fun K hK => ?_) (AllReadyH.cons (o := { dst := some 33, op := Op.call { callee := Callee.value (Operand.func 35), args := #[Operand.tmp 32], argTypes := #[9] }, type := 9, pos := "l10_engine.go:342", after := #[{ on := 2, ground := Ground.data }], guard := none }) rfl (fun K hK => ?_) AllReadyH.nil)
      · have c6 := hV0.1.2 2 (by simp)
        have l6 := hV0.1.1
        simp only [List.getElem?_cons_zero, List.getElem?_cons_succ] at c6
        go_simp
        try go_wp2_with fail
        refine hK.out _ _ trivial (fun _ => ?_)
        clear hK K
        try simp only [Act.put, List.setIfInBounds_toArray, List.set_cons_zero, List.set_cons_succ]
        clear c6 l6
        refine wpAnyH_ready (rs := [3]) (by kernel_rfl) (by simp) ?_
        refine AllReadyH.cons (o := { dst := some 33, op := Op.call { callee := Callee.value (Operand.func 35), args := #[Operand.tmp 32], argTypes := #[9] }, type := 9, pos := "l10_engine.go:342", after := #[{ on := 2, ground := Ground.data }], guard := none }) rfl (fun K hK => ?_) AllReadyH.nil
        go_simp
        go_at_call 35
        refine (HCL2.out _).mono ?_
        rintro e q1 ⟨rfl, hb1⟩
        try go_wp2_with fail
        have hB1 := hB0.trans (hb1.mono hB0.size)
        have hR1 := hR0.below hb1
        have hV1 := hV0.below hb1
        have hM1 := hM0.below hb1
        have hO1 := RowG.own_below hO0 hb1
        have hS1 := RowG.own_below hS0 hb1
        refine hK.out _ _ trivial (fun _ => ?_)
        clear hK K
        try simp only [Act.put, List.setIfInBounds_toArray, List.set_cons_zero, List.set_cons_succ]
        refine wpAnyH_take (i := 4) (oi := { dst := some 34, op := Op.build 62 #[(0, Operand.tmp 33)], type := 62, pos := "l10_engine.go:342", after := #[{ on := 3, ground := Ground.data }], guard := none }) (v := ?_) rfl (by kernel_rfl) (by kernel_rfl) (by kernel_rfl) (fun _ _ _ h => h) (Or.inl ⟨by rfl, ?_⟩) (by assumption) ?_
        rotate_left
        · (intro w hSw; (try dsimp only at hSw); go_simp) <;> with_reducible rfl
        try simp only [Act.put, List.setIfInBounds_toArray, List.set_cons_zero, List.set_cons_succ]
        refine wpAnyH_ready (rs := [5]) (by kernel_rfl) (by simp) ?_
        refine AllReadyH.cons (o := { dst := some 35, op := Op.buildSlice 26 1 #[(0, Operand.tmp 34)], type := 26, pos := "l10_engine.go:342", after := #[{ on := 4, ground := Ground.data }], guard := none }) rfl (fun K hK => ?_) AllReadyH.nil
        go_simp
        try go_wp2_with fail
        have hB2 := hB1.alloc hB1.size (Obj.cells #[.string X, .int .i64 0] 62)
        have hR2 := hR1.below ((Below.refl q1.heap.size q1).alloc (Nat.le_refl _) (Obj.cells #[.string X, .int .i64 0] 62))
        have hV2 := hV1.below ((Below.refl q1.heap.size q1).alloc (Nat.le_refl _) (Obj.cells #[.string X, .int .i64 0] 62))
        have hM2 := hM1.below ((Below.refl q1.heap.size q1).alloc (Nat.le_refl _) (Obj.cells #[.string X, .int .i64 0] 62))
        have hO2 := RowG.own_below hO1 ((Below.refl q1.heap.size q1).alloc (Nat.le_refl _) (Obj.cells #[.string X, .int .i64 0] 62))
        have hS2 := RowG.own_below hS1 ((Below.refl q1.heap.size q1).alloc (Nat.le_refl _) (Obj.cells #[.string X, .int .i64 0] 62))
        have hnw : ∀ j u, ([.string X, .int .i64 0] : List Value)[j]? = some u → (q1.alloc (Obj.cells #[.string X, .int .i64 0] 62)).cell? ((⟨q1.heap.size, 0, none⟩ : Addr).add j) = some u := new_cells q1 [.string X, .int .i64 0] 62
        refine hK.out _ _ trivial (fun _ => ?_)
        clear hK K
        try simp only [Act.put, List.setIfInBounds_toArray, List.set_cons_zero, List.set_cons_succ]
        obtain ⟨bN, hbN⟩ : ∃ z, z = q1.heap.size := ⟨_, rfl⟩
        rw [← hbN] at hnw ⊢
        obtain ⟨k2, hk2⟩ : ∃ z, z = q1.alloc (Obj.cells #[.string X, .int .i64 0] 62) := ⟨_, rfl⟩
        rw [← hk2] at hnw hB2 hR2 hV2 hM2 hO2 hS2 ⊢
        clear hbN hk2
        refine wpAnyH_ready (rs := [6]) (by kernel_rfl) (by simp) ?_
        refine AllReadyH.cons (o := { dst := some 36, op := Op.call { callee := Callee.builtin Builtin.append, args := #[Operand.tmp 31, Operand.tmp 35], argTypes := #[26, 26] }, type := 26, pos := "l10_engine.go:342", after := #[{ on := 1, ground := Ground.data }, { on := 5, ground := Ground.data }, { on := 3, ground := Ground.chain }], guard := none }) rfl (fun K hK => ?_) AllReadyH.nil
        refine step_append_c rfl _ _ 26 rfl (bV + 1) 62 j0 (.agg #[.string ⟨#[]⟩, .int .i64 0]) 2 24 Tryd.underlying26 gi gz0 gz1 gz2 rfl gsz3 _ _ _ rfl hS2 ⟨bN, 0, none⟩ 1 1 [.string X, .int .i64 0] rfl rfl hnw (so_one X 0) sz1 sz2 (hV2.1.1) ?_
        intro v9 w9 hown hgrow hne
        have hB3 := hB2.grown hgrow hB2.size (fun _ e => by have := (hS2.lt _ e).1; omega)
        have hR3 := blkW_grown hR2 hgrow (fun e => by have := (hS2.lt _ e.symm).1; omega)
        have hV3 := blkW_grown hV2 hgrow (fun e => by have := (hS2.lt _ e.symm).1; omega)
        have hM3 := hM2.other hS2 hgrow (by decide) (by decide)
        have hO3 := own_keepO hO2 hgrow (own_apart hO2 hS2 (by decide))
        have hS3 : w9.ownsRow (bV + 1) 62 2 v9 (k + 1) (cellsAll scells (ns.take (k + 1))) := by
          rw [HTK.out, cellsAll_snoc]
          exact hown
        obtain ⟨sb, sq, rfl⟩ := own_form hown
        clear hown hgrow hne hnw
        refine hK.out _ _ trivial (fun _ => ?_)
        clear hK K
        try simp only [Act.put, List.setIfInBounds_toArray, List.set_cons_zero, List.set_cons_succ]
        refine wpAnyH_take (i := 7) (oi := { dst := some 37, op := Op.fieldAddr 31 (Operand.tmp 5) 1, type := 0, pos := "l10_engine.go:342", after := #[{ on := 0, ground := Ground.phase }, { on := 1, ground := Ground.phase }, { on := 2, ground := Ground.phase }, { on := 3, ground := Ground.phase }, { on := 4, ground := Ground.phase }, { on := 5, ground := Ground.phase }, { on := 6, ground := Ground.phase }], guard := none }) (v := ?_) rfl (by kernel_rfl) (by kernel_rfl) (by kernel_rfl) (fun _ _ _ h => h) (Or.inl ⟨by rfl, ?_⟩) (by assumption) ?_
        rotate_left
        · (intro w hSw; (try dsimp only at hSw); go_simp) <;> with_reducible rfl
        try simp only [Act.put, List.setIfInBounds_toArray, List.set_cons_zero, List.set_cons_succ]
        refine wpAnyH_ready (rs := [8]) (by kernel_rfl) (by simp) ?_
        refine AllReadyH.cons (o := { dst := none, op := Op.store 26 (Operand.tmp 37) (Operand.tmp 36), type := 0, pos := "l10_engine.go:342", after := #[{ on := 7, ground := Ground.data }, { on := 6, ground := Ground.data }, { on := 6, ground := Ground.chain }, { on := 0, ground := Ground.phase }, { on := 1, ground := Ground.phase }, { on := 2, ground := Ground.phase }, { on := 3, ground := Ground.phase }, { on := 4, ground := Ground.phase }, { on := 5, ground := Ground.phase }, { on := 6, ground := Ground.phase }], guard := none }) rfl (fun K hK => ?_) AllReadyH.nil
        have c6 := hV3.1.2 2 (by simp)
        have l6 := hV3.1.1
        have f6 := hV3.2 2 (by simp)
        simp only [List.getElem?_cons_zero, List.getElem?_cons_succ] at c6
        go_simp
        try go_wp2_with fail
        have hg := RowG.grown_set w9 bV 2 (.slice (some ⟨sb, 0, none⟩) (k + 1) sq)
        have hB9 := hB3.setCell (show w.heap.size ≤ (⟨bV, 2, none⟩ : Addr).block by simp; omega) (.slice (some ⟨sb, 0, none⟩) (k + 1) sq)
        have hR9 := blkW_grown hR3 hg (by simp; omega)
        have hV9 := hV3.set 2 (.slice (some ⟨sb, 0, none⟩) (k + 1) sq) (by simp)
        simp only [List.set_cons_zero, List.set_cons_succ] at hV9
        have hM9 := hM3.above hg (Nat.le_refl _)
        have hO9 := own_keepO hO3 hg (fun b e => by have := HOB.out b e; simp; omega)
        have hS9 := own_keepG hS3 hg (by omega)
        refine hK.out _ _ trivial (fun _ => ?_)
        clear hK K
        try simp only [Act.put, List.setIfInBounds_toArray, List.set_cons_zero, List.set_cons_succ]
        generalize (w9.setCell ⟨bV, 2, none⟩ (.slice (some ⟨sb, 0, none⟩) (k + 1) sq)) = kk at *
        refine wpAnyH_done (by kernel_rfl) ?_ _
        have HB9 := hid_intro hB9
        have HR9 := hid_intro hR9
        have HV9 := hid_intro hV9
        have HM9 := hid_intro hM9
        have HO9 := hid_intro hO9
        have HS9 := hid_intro hS9
        clear hB9 hR9 hV9 hM9 hO9 hS9 hg c6 l6 f6
        go_wp2_with fail
        go_roundw
        case rel => exact ⟨k + 1, some ⟨sb, 0, none⟩, sq, by omega, by go_num, HS9, HM9, HO9, HV9, HR9, HB9⟩
        case measure => simp [intOf]; omega
      · go_simp
        go_at_call 35
        refine (HCL2.out _).mono ?_
        rintro e q1 ⟨rfl, hb1⟩
        try go_wp2_with fail
        have hB1 := hB0.trans (hb1.mono hB0.size)
        have hR1 := hR0.below hb1
        have hV1 := hV0.below hb1
        have hM1 := hM0.below hb1
        have hO1 := RowG.own_below hO0 hb1
        have hS1 := RowG.own_below hS0 hb1
        refine hK.out _ _ trivial (fun _ => ?_)
        clear hK K
        try simp only [Act.put, List.setIfInBounds_toArray, List.set_cons_zero, List.set_cons_succ]
        refine wpAnyH_take (i := 4) (oi := { dst := some 34, op := Op.build 62 #[(0, Operand.tmp 33)], type := 62, pos := "l10_engine.go:342", after := #[{ on := 3, ground := Ground.data }], guard := none }) (v := ?_) rfl (by kernel_rfl) (by kernel_rfl) (by kernel_rfl) (fun _ _ _ h => h) (Or.inl ⟨by rfl, ?_⟩) (by assumption) ?_
        rotate_left
        · (intro w hSw; (try dsimp only at hSw); go_simp) <;> with_reducible rfl
        try simp only [Act.put, List.setIfInBounds_toArray, List.set_cons_zero, List.set_cons_succ]
        refine wpAnyH_ready (rs := [1, 5]) (by kernel_rfl) (by simp) ?_
        refine AllReadyH.cons (o := { dst := some 31, op := Op.load 26 (Operand.tmp 30), type := 26, pos := "l10_engine.go:342", after := #[{ on := 0, ground := Ground.data }], guard := none }) rfl (fun K hK => ?_) (AllReadyH.cons (o := { dst := some 35, op := Op.buildSlice 26 1 #[(0, Operand.tmp 34)], type := 26, pos := "l10_engine.go:342", after := #[{ on := 4, ground := Ground.data }], guard := none }) rfl (fun K hK => ?_) AllReadyH.nil)
        · have c6 := hV1.1.2 2 (by simp)
          have l6 := hV1.1.1
          simp only [List.getElem?_cons_zero, List.getElem?_cons_succ] at c6
          go_simp
          try go_wp2_with fail
          refine hK.out _ _ trivial (fun _ => ?_)
          clear hK K
          try simp only [Act.put, List.setIfInBounds_toArray, List.set_cons_zero, List.set_cons_succ]
          clear c6 l6
          refine wpAnyH_ready (rs := [5]) (by kernel_rfl) (by simp) ?_
          refine AllReadyH.cons (o := { dst := some 35, op := Op.buildSlice 26 1 #[(0, Operand.tmp 34)], type := 26, pos := "l10_engine.go:342", after := #[{ on := 4, ground := Ground.data }], guard := none }) rfl (fun K hK => ?_) AllReadyH.nil
          go_simp
          try go_wp2_with fail
          have hB2 := hB1.alloc hB1.size (Obj.cells #[.string X, .int .i64 0] 62)
          have hR2 := hR1.below ((Below.refl q1.heap.size q1).alloc (Nat.le_refl _) (Obj.cells #[.string X, .int .i64 0] 62))
          have hV2 := hV1.below ((Below.refl q1.heap.size q1).alloc (Nat.le_refl _) (Obj.cells #[.string X, .int .i64 0] 62))
          have hM2 := hM1.below ((Below.refl q1.heap.size q1).alloc (Nat.le_refl _) (Obj.cells #[.string X, .int .i64 0] 62))
          have hO2 := RowG.own_below hO1 ((Below.refl q1.heap.size q1).alloc (Nat.le_refl _) (Obj.cells #[.string X, .int .i64 0] 62))
          have hS2 := RowG.own_below hS1 ((Below.refl q1.heap.size q1).alloc (Nat.le_refl _) (Obj.cells #[.string X, .int .i64 0] 62))
          have hnw : ∀ j u, ([.string X, .int .i64 0] : List Value)[j]? = some u → (q1.alloc (Obj.cells #[.string X, .int .i64 0] 62)).cell? ((⟨q1.heap.size, 0, none⟩ : Addr).add j) = some u := new_cells q1 [.string X, .int .i64 0] 62
          refine hK.out _ _ trivial (fun _ => ?_)
          clear hK K
          try simp only [Act.put, List.setIfInBounds_toArray, List.set_cons_zero, List.set_cons_succ]
          obtain ⟨bN, hbN⟩ : ∃ z, z = q1.heap.size := ⟨_, rfl⟩
          rw [← hbN] at hnw ⊢
          obtain ⟨k2, hk2⟩ : ∃ z, z = q1.alloc (Obj.cells #[.string X, .int .i64 0] 62) := ⟨_, rfl⟩
          rw [← hk2] at hnw hB2 hR2 hV2 hM2 hO2 hS2 ⊢
          clear hbN hk2
          refine wpAnyH_ready (rs := [6]) (by kernel_rfl) (by simp) ?_
          refine AllReadyH.cons (o := { dst := some 36, op := Op.call { callee := Callee.builtin Builtin.append, args := #[Operand.tmp 31, Operand.tmp 35], argTypes := #[26, 26] }, type := 26, pos := "l10_engine.go:342", after := #[{ on := 1, ground := Ground.data }, { on := 5, ground := Ground.data }, { on := 3, ground := Ground.chain }], guard := none }) rfl (fun K hK => ?_) AllReadyH.nil
          refine step_append_c rfl _ _ 26 rfl (bV + 1) 62 j0 (.agg #[.string ⟨#[]⟩, .int .i64 0]) 2 24 Tryd.underlying26 gi gz0 gz1 gz2 rfl gsz3 _ _ _ rfl hS2 ⟨bN, 0, none⟩ 1 1 [.string X, .int .i64 0] rfl rfl hnw (so_one X 0) sz1 sz2 (hV2.1.1) ?_
          intro v9 w9 hown hgrow hne
          have hB3 := hB2.grown hgrow hB2.size (fun _ e => by have := (hS2.lt _ e).1; omega)
          have hR3 := blkW_grown hR2 hgrow (fun e => by have := (hS2.lt _ e.symm).1; omega)
          have hV3 := blkW_grown hV2 hgrow (fun e => by have := (hS2.lt _ e.symm).1; omega)
          have hM3 := hM2.other hS2 hgrow (by decide) (by decide)
          have hO3 := own_keepO hO2 hgrow (own_apart hO2 hS2 (by decide))
          have hS3 : w9.ownsRow (bV + 1) 62 2 v9 (k + 1) (cellsAll scells (ns.take (k + 1))) := by
            rw [HTK.out, cellsAll_snoc]
            exact hown
          obtain ⟨sb, sq, rfl⟩ := own_form hown
          clear hown hgrow hne hnw
          refine hK.out _ _ trivial (fun _ => ?_)
          clear hK K
          try simp only [Act.put, List.setIfInBounds_toArray, List.set_cons_zero, List.set_cons_succ]
          refine wpAnyH_take (i := 7) (oi := { dst := some 37, op := Op.fieldAddr 31 (Operand.tmp 5) 1, type := 0, pos := "l10_engine.go:342", after := #[{ on := 0, ground := Ground.phase }, { on := 1, ground := Ground.phase }, { on := 2, ground := Ground.phase }, { on := 3, ground := Ground.phase }, { on := 4, ground := Ground.phase }, { on := 5, ground := Ground.phase }, { on := 6, ground := Ground.phase }], guard := none }) (v := ?_) rfl (by kernel_rfl) (by kernel_rfl) (by kernel_rfl) (fun _ _ _ h => h) (Or.inl ⟨by rfl, ?_⟩) (by assumption) ?_
          rotate_left
          · (intro w hSw; (try dsimp only at hSw); go_simp) <;> with_reducible rfl
          try simp only [Act.put, List.setIfInBounds_toArray, List.set_cons_zero, List.set_cons_succ]
          refine wpAnyH_ready (rs := [8]) (by kernel_rfl) (by simp) ?_
          refine AllReadyH.cons (o := { dst := none, op := Op.store 26 (Operand.tmp 37) (Operand.tmp 36), type := 0, pos := "l10_engine.go:342", after := #[{ on := 7, ground := Ground.data }, { on := 6, ground := Ground.data }, { on := 6, ground := Ground.chain }, { on := 0, ground := Ground.phase }, { on := 1, ground := Ground.phase }, { on := 2, ground := Ground.phase }, { on := 3, ground := Ground.phase }, { on := 4, ground := Ground.phase }, { on := 5, ground := Ground.phase }, { on := 6, ground := Ground.phase }], guard := none }) rfl (fun K hK => ?_) AllReadyH.nil
          have c6 := hV3.1.2 2 (by simp)
          have l6 := hV3.1.1
          have f6 := hV3.2 2 (by simp)
          simp only [List.getElem?_cons_zero, List.getElem?_cons_succ] at c6
          go_simp
          try go_wp2_with fail
          have hg := RowG.grown_set w9 bV 2 (.slice (some ⟨sb, 0, none⟩) (k + 1) sq)
          have hB9 := hB3.setCell (show w.heap.size ≤ (⟨bV, 2, none⟩ : Addr).block by simp; omega) (.slice (some ⟨sb, 0, none⟩) (k + 1) sq)
          have hR9 := blkW_grown hR3 hg (by simp; omega)
          have hV9 := hV3.set 2 (.slice (some ⟨sb, 0, none⟩) (k + 1) sq) (by simp)
          simp only [List.set_cons_zero, List.set_cons_succ] at hV9
          have hM9 := hM3.above hg (Nat.le_refl _)
          have hO9 := own_keepO hO3 hg (fun b e => by have := HOB.out b e; simp; omega)
          have hS9 := own_keepG hS3 hg (by omega)
          refine hK.out _ _ trivial (fun _ => ?_)
          clear hK K
          try simp only [Act.put, List.setIfInBounds_toArray, List.set_cons_zero, List.set_cons_succ]
          generalize (w9.setCell ⟨bV, 2, none⟩ (.slice (some ⟨sb, 0, none⟩) (k + 1) sq)) = kk at *
          refine wpAnyH_done (by kernel_rfl) ?_ _
          have HB9 := hid_intro hB9
          have HR9 := hid_intro hR9
          have HV9 := hid_intro hV9
          have HM9 := hid_intro hM9
          have HO9 := hid_intro hO9
          have HS9 := hid_intro hS9
          clear hB9 hR9 hV9 hM9 hO9 hS9 hg c6 l6 f6
          go_wp2_with fail
          go_roundw
          case rel => exact ⟨k + 1, some ⟨sb, 0, none⟩, sq, by omega, by go_num, HS9, HM9, HO9, HV9, HR9, HB9⟩
          case measure => simp [intOf]; omega
        · go_simp
          try go_wp2_with fail
          have hB2 := hB1.alloc hB1.size (Obj.cells #[.string X, .int .i64 0] 62)
          have hR2 := hR1.below ((Below.refl q1.heap.size q1).alloc (Nat.le_refl _) (Obj.cells #[.string X, .int .i64 0] 62))
          have hV2 := hV1.below ((Below.refl q1.heap.size q1).alloc (Nat.le_refl _) (Obj.cells #[.string X, .int .i64 0] 62))
          have hM2 := hM1.below ((Below.refl q1.heap.size q1).alloc (Nat.le_refl _) (Obj.cells #[.string X, .int .i64 0] 62))
          have hO2 := RowG.own_below hO1 ((Below.refl q1.heap.size q1).alloc (Nat.le_refl _) (Obj.cells #[.string X, .int .i64 0] 62))
          have hS2 := RowG.own_below hS1 ((Below.refl q1.heap.size q1).alloc (Nat.le_refl _) (Obj.cells #[.string X, .int .i64 0] 62))
          have hnw : ∀ j u, ([.string X, .int .i64 0] : List Value)[j]? = some u → (q1.alloc (Obj.cells #[.string X, .int .i64 0] 62)).cell? ((⟨q1.heap.size, 0, none⟩ : Addr).add j) = some u := new_cells q1 [.string X, .int .i64 0] 62
          refine hK.out _ _ trivial (fun _ => ?_)
          clear hK K
          try simp only [Act.put, List.setIfInBounds_toArray, List.set_cons_zero, List.set_cons_succ]
          obtain ⟨bN, hbN⟩ : ∃ z, z = q1.heap.size := ⟨_, rfl⟩
          rw [← hbN] at hnw ⊢
          obtain ⟨k2, hk2⟩ : ∃ z, z = q1.alloc (Obj.cells #[.string X, .int .i64 0] 62) := ⟨_, rfl⟩
          rw [← hk2] at hnw hB2 hR2 hV2 hM2 hO2 hS2 ⊢
          clear hbN hk2
          refine wpAnyH_ready (rs := [1]) (by kernel_rfl) (by simp) ?_
          refine AllReadyH.cons (o := { dst := some 31, op := Op.load 26 (Operand.tmp 30), type := 26, pos := "l10_engine.go:342", after := #[{ on := 0, ground := Ground.data }], guard := none }) rfl (fun K hK => ?_) AllReadyH.nil
          have c6 := hV2.1.2 2 (by simp)
          have l6 := hV2.1.1
          simp only [List.getElem?_cons_zero, List.getElem?_cons_succ] at c6
          go_simp
          try go_wp2_with fail
          refine hK.out _ _ trivial (fun _ => ?_)
          clear hK K
          try simp only [Act.put, List.setIfInBounds_toArray, List.set_cons_zero, List.set_cons_succ]
          clear c6 l6
          refine wpAnyH_ready (rs := [6]) (by kernel_rfl) (by simp) ?_
          refine AllReadyH.cons (o := { dst := some 36, op := Op.call { callee := Callee.builtin Builtin.append, args := #[Operand.tmp 31, Operand.tmp 35], argTypes := #[26, 26] }, type := 26, pos := "l10_engine.go:342", after := #[{ on := 1, ground := Ground.data }, { on := 5, ground := Ground.data }, { on := 3, ground := Ground.chain }], guard := none }) rfl (fun K hK => ?_) AllReadyH.nil
          refine step_append_c rfl _ _ 26 rfl (bV + 1) 62 j0 (.agg #[.string ⟨#[]⟩, .int .i64 0]) 2 24 Tryd.underlying26 gi gz0 gz1 gz2 rfl gsz3 _ _ _ rfl hS2 ⟨bN, 0, none⟩ 1 1 [.string X, .int .i64 0] rfl rfl hnw (so_one X 0) sz1 sz2 (hV2.1.1) ?_
          intro v9 w9 hown hgrow hne
          have hB3 := hB2.grown hgrow hB2.size (fun _ e => by have := (hS2.lt _ e).1; omega)
          have hR3 := blkW_grown hR2 hgrow (fun e => by have := (hS2.lt _ e.symm).1; omega)
          have hV3 := blkW_grown hV2 hgrow (fun e => by have := (hS2.lt _ e.symm).1; omega)
          have hM3 := hM2.other hS2 hgrow (by decide) (by decide)
          have hO3 := own_keepO hO2 hgrow (own_apart hO2 hS2 (by decide))
          have hS3 : w9.ownsRow (bV + 1) 62 2 v9 (k + 1) (cellsAll scells (ns.take (k + 1))) := by
            rw [HTK.out, cellsAll_snoc]
            exact hown
          obtain ⟨sb, sq, rfl⟩ := own_form hown
          clear hown hgrow hne hnw
          refine hK.out _ _ trivial (fun _ => ?_)
          clear hK K
          try simp only [Act.put, List.setIfInBounds_toArray, List.set_cons_zero, List.set_cons_succ]
          refine wpAnyH_take (i := 7) (oi := { dst := some 37, op := Op.fieldAddr 31 (Operand.tmp 5) 1, type := 0, pos := "l10_engine.go:342", after := #[{ on := 0, ground := Ground.phase }, { on := 1, ground := Ground.phase }, { on := 2, ground := Ground.phase }, { on := 3, ground := Ground.phase }, { on := 4, ground := Ground.phase }, { on := 5, ground := Ground.phase }, { on := 6, ground := Ground.phase }], guard := none }) (v := ?_) rfl (by kernel_rfl) (by kernel_rfl) (by kernel_rfl) (fun _ _ _ h => h) (Or.inl ⟨by rfl, ?_⟩) (by assumption) ?_
          rotate_left
          · (intro w hSw; (try dsimp only at hSw); go_simp) <;> with_reducible rfl
          try simp only [Act.put, List.setIfInBounds_toArray, List.set_cons_zero, List.set_cons_succ]
          refine wpAnyH_ready (rs := [8]) (by kernel_rfl) (by simp) ?_
          refine AllReadyH.cons (o := { dst := none, op := Op.store 26 (Operand.tmp 37) (Operand.tmp 36), type := 0, pos := "l10_engine.go:342", after := #[{ on := 7, ground := Ground.data }, { on := 6, ground := Ground.data }, { on := 6, ground := Ground.chain }, { on := 0, ground := Ground.phase }, { on := 1, ground := Ground.phase }, { on := 2, ground := Ground.phase }, { on := 3, ground := Ground.phase }, { on := 4, ground := Ground.phase }, { on := 5, ground := Ground.phase }, { on := 6, ground := Ground.phase }], guard := none }) rfl (fun K hK => ?_) AllReadyH.nil
          have c6 := hV3.1.2 2 (by simp)
          have l6 := hV3.1.1
          have f6 := hV3.2 2 (by simp)
          simp only [List.getElem?_cons_zero, List.getElem?_cons_succ] at c6
          go_simp
          try go_wp2_with fail
          have hg := RowG.grown_set w9 bV 2 (.slice (some ⟨sb, 0, none⟩) (k + 1) sq)
          have hB9 := hB3.setCell (show w.heap.size ≤ (⟨bV, 2, none⟩ : Addr).block by simp; omega) (.slice (some ⟨sb, 0, none⟩) (k + 1) sq)
          have hR9 := blkW_grown hR3 hg (by simp; omega)
          have hV9 := hV3.set 2 (.slice (some ⟨sb, 0, none⟩) (k + 1) sq) (by simp)
          simp only [List.set_cons_zero, List.set_cons_succ] at hV9
          have hM9 := hM3.above hg (Nat.le_refl _)
          have hO9 := own_keepO hO3 hg (fun b e => by have := HOB.out b e; simp; omega)
          have hS9 := own_keepG hS3 hg (by omega)
          refine hK.out _ _ trivial (fun _ => ?_)
          clear hK K
          try simp only [Act.put, List.setIfInBounds_toArray, List.set_cons_zero, List.set_cons_succ]
          generalize (w9.setCell ⟨bV, 2, none⟩ (.slice (some ⟨sb, 0, none⟩) (k + 1) sq)) = kk at *
          refine wpAnyH_done (by kernel_rfl) ?_ _
          have HB9 := hid_intro hB9
          have HR9 := hid_intro hR9
          have HV9 := hid_intro hV9
          have HM9 := hid_intro hM9
          have HO9 := hid_intro hO9
          have HS9 := hid_intro hS9
          clear hB9 hR9 hV9 hM9 hO9 hS9 hg c6 l6 f6
          go_wp2_with fail
          go_roundw
          case rel => exact ⟨k + 1, some ⟨sb, 0, none⟩, sq, by omega, by go_num, HS9, HM9, HO9, HV9, HR9, HB9⟩
          case measure => simp [intOf]; omega
    · have hlt2 : ¬ (k : Int) < (nl : Int) := by omega
      obtain rfl : k = nl := by omega
      have HTE : Hid (ns.take k = ns) := hid_intro (by rw [HL.out]; exact List.take_length)
      rw [HTE.out] at HS
      clear HTE
      obtain ⟨⟨vl, vk⟩, _⟩ := HV.out
      have v0 : wr.cell? ⟨bV, 0, none⟩ = some (.slice xa xn xc) := vk 0 (by simp)
      have v1 : wr.cell? ⟨bV, 1, none⟩ = some (.slice va cl cp) := vk 1 (by simp)
      have v2 : wr.cell? ⟨bV, 2, none⟩ = some (.slice sa k sc) := vk 2 (by simp)
      have v3 : wr.cell? ⟨bV, 3, none⟩ = some (.slice none 0 0) := vk 3 (by simp)
      have v4 : wr.cell? ⟨bV, 4, none⟩ = some (.slice none 0 0) := vk 4 (by simp)
      have v5 : wr.cell? ⟨bV, 5, none⟩ = some (.slice none 0 0) := vk 5 (by simp)
      have v6 : wr.cell? ⟨bV, 6, none⟩ = some (.int .i64 0) := vk 6 (by simp)
      obtain ⟨⟨rl, rk⟩, rf⟩ := HR.out
      have p0 : wr.cell? ⟨bR, 0, none⟩ = some (.slice none 0 0) := rk 0 (by simp)
      have f0 : wr.frozen? ⟨bR, 0, none⟩ = false := rf 0 (by simp)
      have p1 : wr.cell? ⟨bR, 1, none⟩ = some (.slice none 0 0) := rk 1 (by simp)
      have f1 : wr.frozen? ⟨bR, 1, none⟩ = false := rf 1 (by simp)
      have p2 : wr.cell? ⟨bR, 2, none⟩ = some (.slice none 0 0) := rk 2 (by simp)
      have f2 : wr.frozen? ⟨bR, 2, none⟩ = false := rf 2 (by simp)
      have p3 : wr.cell? ⟨bR, 3, none⟩ = some (.slice none 0 0) := rk 3 (by simp)
      have f3 : wr.frozen? ⟨bR, 3, none⟩ = false := rf 3 (by simp)
      have p4 : wr.cell? ⟨bR, 4, none⟩ = some (.slice none 0 0) := rk 4 (by simp)
      have f4 : wr.frozen? ⟨bR, 4, none⟩ = false := rf 4 (by simp)
      have p5 : wr.cell? ⟨bR, 5, none⟩ = some (.slice none 0 0) := rk 5 (by simp)
      have f5 : wr.frozen? ⟨bR, 5, none⟩ = false := rf 5 (by simp)
      have p6 : wr.cell? ⟨bR, 6, none⟩ = some (.int .i64 0) := rk 6 (by simp)
      have f6 : wr.frozen? ⟨bR, 6, none⟩ = false := rf 6 (by simp)
      have p7 : wr.cell? ⟨bR, 7, none⟩ = some (.int .i64 0) := rk 7 (by simp)
      have f7 : wr.frozen? ⟨bR, 7, none⟩ = false := rf 7 (by simp)
      have p8 : wr.cell? ⟨bR, 8, none⟩ = some (.int .i64 0) := rk 8 (by simp)
      have f8 : wr.frozen? ⟨bR, 8, none⟩ = false := rf 8 (by simp)
      have p9 : wr.cell? ⟨bR, 9, none⟩ = some (.int .i64 0) := rk 9 (by simp)
      have f9 : wr.frozen? ⟨bR, 9, none⟩ = false := rf 9 (by simp)
      have p10 : wr.cell? ⟨bR, 10, none⟩ = some (.int .i64 0) := rk 10 (by simp)
      have f10 : wr.frozen? ⟨bR, 10, none⟩ = false := rf 10 (by simp)
      have p11 : wr.cell? ⟨bR, 11, none⟩ = some (.int .i64 0) := rk 11 (by simp)
      have f11 : wr.frozen? ⟨bR, 11, none⟩ = false := rf 11 (by simp)
      have p12 : wr.cell? ⟨bR, 12, none⟩ = some (.slice none 0 0) := rk 12 (by simp)
      have f12 : wr.frozen? ⟨bR, 12, none⟩ = false := rf 12 (by simp)
      have p13 : wr.cell? ⟨bR, 13, none⟩ = some (.int .i64 0) := rk 13 (by simp)
      have f13 : wr.frozen? ⟨bR, 13, none⟩ = false := rf 13 (by simp)
      have hg := StR.stL_grown bR [.slice xa xn xc, .slice va cl cp, .slice sa k sc, .slice none 0 0, .slice none 0 0, .slice none 0 0, .int .i64 0, .int .i64 0, .int .i64 0, .int .i64 0, .int .i64 0, .int .i64 0, .slice none 0 0, .int .i64 0] 0 wr
      have HB9 := hid_intro (HB.out.grown hg HB.out.size (fun _ e => by cases e; omega))
      have HO9 := hid_intro (own_keepG HO.out hg (by omega))
      have HS9 := hid_intro (own_keepG HS.out hg (by omega))
      have HM9 := hid_intro (HM.out.far hg (by omega))
      simp only [StR.stL, Nat.zero_add] at HB9 HO9 HM9 HS9
      clear vk rk rf hg HB HR HV HO HM HS
      go_wp2_with fail
      refine bodyPost_ret (v := .agg #[.slice xa xn xc, .slice va cl cp, .slice sa k sc, .slice none 0 0, .slice none 0 0, .slice none 0 0, .int .i64 0, .int .i64 0, .int .i64 0, .int .i64 0, .int .i64 0, .int .i64 0, .slice none 0 0, .int .i64 0]) (by simp [results, Tryd.results11, go_sem, p0, p1, p2, p3, p4, p5, p6, p7, p8, p9, p10, p11, p12, p13]) rfl ?_
      rw [HEQ.out.1, HEQ.out.2.1, HEQ.out.2.2]
      refine ⟨_, va, cp, sa, sc, by rw [← HCL.out, ← HL.out], (show MsO _ _ _ _ from ⟨_, HM9.out.1⟩).low (by omega), ?_, ?_, HB9.out⟩
      · rw [← HCL.out]
        exact own_low HO9.out (by omega)
      · rw [← HL.out]
        exact own_low HS9.out (by omega)
end EngR
end Go.Proofs.YtlhghjjgpdkekaaDoor
