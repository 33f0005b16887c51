/-
  Answers with a new engine: what they read, that they stay where nothing of their own is written, held against each other, marked, the marks read later on. The conditions: sizes of at most 1048576.
-/
import Derived.Test.YtlhghjjgpdkekaaDoorEnQ
import Derived.Test.YtlhghjjgpdkekaaDoorMkS
import Derived.Test.YtlhghjjgpdkekaaDoorEgE
namespace Go.Proofs.YtlhghjjgpdkekaaDoor
open Go.ChangeShapes Go.WideShapes Go.ChangeAt Go.RowKit
set_option linter.unusedVariables false
namespace EngR
open OwG CatR StxR ChG
open RowG (cellsAll grown_set)
open EvtR (Pt)
/-- An answer with a new engine, all of it one's own. -/
def EgO (base : Nat) (v : Value) (c : Ca) (ns : List ByteArray) (cd : Int) (W : World) : Prop := ∃ vm va cp sa sc, v = .agg #[vm, .slice va c.cs.length cp, .slice sa ns.length sc, .slice none 0 0, .slice none 0 0, .slice none 0 0, .int .i64 0, .int .i64 0, .int .i64 0, .int .i64 0, .int .i64 0, .int .i64 0, .slice none 0 0, .int .i64 cd] ∧ MsO base vm c.ms W ∧ W.ownsRow base 59 2 (.slice va c.cs.length cp) c.cs.length (cellsAll Cr.cells c.cs) ∧ W.ownsRow base 62 2 (.slice sa ns.length sc) ns.length (cellsAll scells ns)
theorem EnO.eg {w w' : World} {c : Ca} {ns : List ByteArray} {cd : Int} {e : Ending} (h : EnO w c ns cd e w') : ∃ v, e = .returned v ∧ EgO w.heap.size v c ns cd w' ∧ Below w.heap.size w w' := by
  obtain ⟨vm, va, cp, sa, sc, he, h1, h2, h3, h4⟩ := h
  exact ⟨_, he, ⟨vm, va, cp, sa, sc, rfl, h1, h2, h3⟩, h4⟩
/-- Sources with the mark 0, as pairs of a text and a number. -/
def srC (ns : List ByteArray) : List Cr := ns.map (fun t => ⟨t, 0⟩)
theorem srC_len (ns : List ByteArray) : (srC ns).length = ns.length := by simp [srC]
theorem srs_crs {na : Option Addr} {ns : List ByteArray} {w : World} (h : Srs na ns w) : Crs na ns.length (srC ns) w := by
  refine ⟨srC_len ns, ?_⟩
  by_cases h0 : ns.length = 0
  · exact .inl h0
  · obtain ⟨b, off, rfl, hb, _⟩ := h.at 0 (by omega)
    refine .inr ⟨b, off, rfl, hb, fun j hj => ?_⟩
    obtain ⟨b', off', e, _, h1, h2⟩ := h.at j hj
    cases e
    have e : (srC ns).getD j Cr.zero = ⟨ns.getD j tz, 0⟩ := by
      have hs : j < (srC ns).length := by rw [srC_len]; exact hj
      simp [srC, List.getD, hj]
    rw [e]
    exact ⟨h1, h2⟩
/-- An answer that reads so. -/
def EgR (v : Value) (c : Ca) (ns : List ByteArray) (cd : Int) (W : World) : Prop := ∃ ma mc ca cc sa sc, v = .agg #[.slice ma c.ms.length mc, .slice ca c.cs.length cc, .slice sa ns.length sc, .slice none 0 0, .slice none 0 0, .slice none 0 0, .int .i64 0, .int .i64 0, .int .i64 0, .int .i64 0, .int .i64 0, .int .i64 0, .slice none 0 0, .int .i64 cd] ∧ Mes ma c.ms.length c.ms W ∧ Crs ca c.cs.length c.cs W ∧ Crs sa ns.length (srC ns) W
theorem EgR.below {v : Value} {c : Ca} {ns : List ByteArray} {cd : Int} {W W' : World} (h : EgR v c ns cd W) (hb : Below W.heap.size W W') : EgR v c ns cd W' := by
  obtain ⟨ma, mc, ca, cc, sa, sc, rfl, h1, h2, h3⟩ := h
  exact ⟨ma, mc, ca, cc, sa, sc, rfl, h1.below hb, h2.below hb, h3.below hb⟩
theorem EgO.reads {base : Nat} {v : Value} {c : Ca} {ns : List ByteArray} {cd : Int} {W : World} (h : EgO base v c ns cd W) : EgR v c ns cd W := by
  obtain ⟨vm, va, cp, sa, sc, rfl, h1, h2, h3⟩ := h
  obtain ⟨ma, mc, rfl, hm⟩ := h1.mes
  obtain ⟨ao, cap, e, h4⟩ := RowG.own_made (z := tz) s_len h3
  cases e
  exact ⟨ma, mc, va, cp, sa, sc, rfl, hm, own_crs h2 rfl, srs_crs h4.rws⟩
/-- What lies in blocks from base on is as it was. -/
structure Kq (base : Nat) (w w' : World) : Prop where
  size : w.heap.size ≤ w'.heap.size
  block : ∀ k, base ≤ k → k < w.heap.size → w'.heap[k]? = w.heap[k]?
theorem Kq.refl (base : Nat) (w : World) : Kq base w w := ⟨Nat.le_refl _, fun _ _ _ => rfl⟩
theorem Kq.below {base : Nat} {w w1 w2 : World} (h : Kq base w w1) (hb : Below w1.heap.size w1 w2) : Kq base w w2 :=
  ⟨Nat.le_trans h.size hb.size, fun k h1 h2 => (hb.block k (by have := h.size; omega)).trans (h.block k h1 h2)⟩
theorem Kq.chg {base : Nat} {S : Nat → Prop} {w w1 w2 : World} (h : Kq base w w1) (hc : Chg S w1 w2) (hS : ∀ b, S b → b < base) : Kq base w w2 :=
  ⟨Nat.le_trans h.size hc.size, fun k h1 h2 => (hc.block k (by have := h.size; omega) (fun q => by have := hS k q; omega)).trans (h.block k h1 h2)⟩
theorem own_kq {W W' : World} {base e size n : Nat} {v : Value} {xs : List Value} (h : W.ownsRow base e size v n xs) (hk : Kq base W W') : W'.ownsRow base e size v n xs := by
  have hl := h.lt
  obtain ⟨h1, h2⟩ := h
  refine ⟨h1, h2.imp id ?_⟩
  rintro ⟨g, cap, cur, rfl, hg, hh, rest⟩
  refine ⟨g, cap, cur, rfl, hg, ?_, rest⟩
  rw [hk.block g hg (hl g rfl).2]
  exact hh
theorem MsO.kq {base : Nat} {v : Value} {ms : List Me} {W W' : World} (h : MsO base v ms W) (hk : Kq base W W') : MsO base v ms W' := by
  obtain ⟨lim, xs, h1, h2, h3, h4, h5⟩ := h
  exact ⟨lim, xs, h1, own_kq h2 hk, fun x hx => own_kq (h3 x hx) hk, h4, h5⟩
theorem EgO.kq {base : Nat} {v : Value} {c : Ca} {ns : List ByteArray} {cd : Int} {W W' : World} (h : EgO base v c ns cd W) (hk : Kq base W W') : EgO base v c ns cd W' := by
  obtain ⟨vm, va, cp, sa, sc, rfl, h1, h2, h3⟩ := h
  exact ⟨vm, va, cp, sa, sc, rfl, MsO.kq h1 hk, own_kq h2 hk, own_kq h3 hk⟩
theorem tot_fiveE : ∀ ms : List Me, (∀ m ∈ ms, m.ts.length ≤ 5) → totM ms ≤ 15 * ms.length
  | [], _ => Nat.le_refl _
  | m :: ms, h => by
    have h1 := tot_fiveE ms (fun d hd => h d (List.mem_cons_of_mem _ hd))
    have h2 := h m (List.mem_cons_self ..)
    simp only [totM, List.map_cons, List.sum_cons, List.length_cons] at *
    omega
/-- A new engine marked, and its marks read later on. -/
theorem mkh_new (base : Nat) (vm : Value) (va sa : Option Addr) (cp sc : Nat) (c : Ca) (ns : List ByteArray) (h6 : c.ms.length ≤ 6) (h5 : ∀ m ∈ c.ms, m.ts.length ≤ 5) (hc6 : c.cs.length ≤ 6) (hn3 : ns.length ≤ 3) (Wt W : World) (g1 : MsO base vm c.ms Wt) (g2 : Wt.ownsRow base 59 2 (.slice va c.cs.length cp) c.cs.length (cellsAll Cr.cells c.cs)) (g3 : Wt.ownsRow base 62 2 (.slice sa ns.length sc) ns.length (cellsAll scells ns)) (hk : Kq base Wt W) :
    ∃ (K : Nat) (T : Nat → Prop) (ma : Option Addr) (ml mc : Nat), vm = .slice ma ml mc ∧ MkH 7 8 (.agg #[vm, .slice va c.cs.length cp, .slice sa ns.length sc, .slice none 0 0, .slice none 0 0, .slice none 0 0, .int .i64 0]) 1 K T W ∧ ∀ b, T b → base ≤ b ∧ b < Wt.heap.size := by
  obtain ⟨lim, xs, x1, x2, x3, x4, x5⟩ := g1
  have hlm : c.ms.length = xs.length := by rw [← x1]; simp
  rw [hlm] at x2 h6
  have hlx : ∀ y ∈ xs, y.m.ts.length ≤ 5 := fun y hy => h5 _ (by rw [← x1]; exact List.mem_map_of_mem hy)
  have htt := tot_fiveE (xs.map MA.m) (by rw [x1]; exact h5)
  rw [List.length_map] at htt
  have l2 := x2.lt
  have l3 := fun y hy => (x3 y hy).lt
  have l4 := g2.lt
  have l5 := g3.lt
  have hsz := hk.size
  have y2 := own_kq x2 hk
  have y3 : ∀ x ∈ xs, TnO base x W := fun x hx => own_kq (x3 x hx) hk
  have y4 := own_kq g2 hk
  have y5 := own_kq g3 hk
  obtain ⟨ma, mc, rfl, _⟩ := RowG.own_made (z := MA.zero) MA.len x2
  generalize hT : totM (xs.map MA.m) = T at *
  have hme := mkh_mes (w := W) (K := 1) (by omega) (by omega) (fun y hy => by have := hlx y hy; omega) (by omega) y2 y3 x4
  have hcr := mkh_cred (w := W) (K := 1 + T) y4 (by omega) (by omega) (by omega)
  have hsr := mkh_src (w := W) (K := 1 + T + 2 * c.cs.length) y5 (by omega) (by omega) (by omega)
  rw [hT] at hme
  have dmc : ∀ b, TMs (.slice ma xs.length mc) xs b → T1 (.slice va c.cs.length cp) b → False := by
    rintro b (q | ⟨y, hy, q⟩) q2
    · exact own_apart y4 y2 (by decide) b q2 q.symm
    · exact own_apart y4 (y3 y hy) (by decide) b q2 q.symm
  have dms : ∀ b, TMs (.slice ma xs.length mc) xs b → T1 (.slice sa ns.length sc) b → False := by
    rintro b (q | ⟨y, hy, q⟩) q2
    · exact own_apart y5 y2 (by decide) b q2 q.symm
    · exact own_apart y5 (y3 y hy) (by decide) b q2 q.symm
  have dcs : ∀ b, T1 (.slice va c.cs.length cp) b → T1 (.slice sa ns.length sc) b → False := fun b q q2 => own_apart y5 y4 (by decide) b q2 q.symm
  have lm : ∀ b, TMs (.slice ma xs.length mc) xs b → base ≤ b ∧ b < Wt.heap.size := by
    rintro b (q | ⟨y, hy, q⟩)
    · exact l2 b q
    · exact l3 y hy b q
  have lc : ∀ b, T1 (.slice va c.cs.length cp) b → base ≤ b ∧ b < Wt.heap.size := fun b q => l4 b q
  have ls : ∀ b, T1 (.slice sa ns.length sc) b → base ≤ b ∧ b < Wt.heap.size := fun b q => l5 b q
  have hcat := mkh_cat ma xs.length mc va c.cs.length cp 1 (1 + T) (1 + T + 2 * c.cs.length) _ _ W hme hcr (by rintro b (q | q); have := (lm b q).2; omega; have := (lc b q).2; omega) dmc
  have heng := mkh_eng ma xs.length mc va c.cs.length cp sa ns.length sc none 0 0 none 0 0 none 0 0 0 1 (1 + T + 2 * c.cs.length) (1 + T + 2 * c.cs.length + 2 * ns.length) (1 + T + 2 * c.cs.length + 2 * ns.length) (1 + T + 2 * c.cs.length + 2 * ns.length) (1 + T + 2 * c.cs.length + 2 * ns.length) _ _ _ _ _ W hcat hsr (mkh_ens0 _ none 0 W) (mkh_wds0 _ none 0 W) (mkh_dcs0 _ none 0 W)
    (by
      rintro b ((q | q) | q | q | q | q)
      · have := (lm b q).2; omega
      · have := (lc b q).2; omega
      · have := (ls b q).2; omega
      all_goals exact q.elim)
    (by rintro b (q | q) q2; exact dms b q q2; exact dcs b q q2) (fun b _ q => q) (fun b _ q => q) (fun b _ q => q) (fun b _ q => q) (fun b _ q => q) (fun b _ q => q) (fun b _ q => q) (fun b _ q => q) (fun b _ q => q)
  refine ⟨_, _, ma, xs.length, mc, rfl, heng, ?_⟩
  rintro b ((q | q) | q | q | q | q)
  · exact lm b q
  · exact lc b q
  · exact ls b q
  all_goals exact q.elim
theorem eqNew (ma ma' ca ca' sa sa' : Option Addr) (mc mc' cc cc' sc sc' : Nat) (c : Ca) (ns : List ByteArray) (w : World) (hS : c.Small) (hn : ns.length ≤ 1048576) (h1 : Mes ma c.ms.length c.ms w) (h2 : Crs ca c.cs.length c.cs w) (h3 : Crs sa ns.length (srC ns) w) (h1' : Mes ma' c.ms.length c.ms w) (h2' : Crs ca' c.cs.length c.cs w) (h3' : Crs sa' ns.length (srC ns) w) :
    Calls Tryd.prog 6 #[.agg #[.slice ma c.ms.length mc, .slice ca c.cs.length cc, .slice sa ns.length sc, .slice none 0 0, .slice none 0 0, .slice none 0 0, .int .i64 0], .agg #[.slice ma' c.ms.length mc', .slice ca' c.cs.length cc', .slice sa' ns.length sc', .slice none 0 0, .slice none 0 0, .slice none 0 0, .int .i64 0]] w fun e w' => e = .returned (.bool true) ∧ Below w.heap.size w w' := by
  refine eqEng ma ma' _ mc mc' ca ca' _ cc cc' sa sa' _ sc sc' none none 0 0 0 none none 0 0 0 none none 0 0 0 0 w (fun V hb => ?_) (fun V hb => eqSrs_any _ _ _ _ _ _ V hn (h3.below hb) (h3'.below hb)) (fun V hV => eqEns0 none none 0 0 V) (fun V hV => eqWds0 none none 0 0 V) (fun V hV => eqDcs0 none none 0 0 V)
  exact eqCa_any _ _ c V hS ⟨ma, mc, ca, cc, rfl, h1.below hb, h2.below hb⟩ ⟨ma', mc', ca', cc', rfl, h1'.below hb, h2'.below hb⟩
theorem en_small {c : Ca} {ns : List ByteArray} (hS : c.Small) : (enA c ns).Small ∧ (enA c ns).ms.length ≤ 6 ∧ (∀ m ∈ (enA c ns).ms, m.ts.length ≤ 5) ∧ (enA c ns).cs.length ≤ 6 ∧ (enS c ns).length ≤ 3 := by
  have h0 : (⟨[], []⟩ : Ca).Small ∧ (⟨[], []⟩ : Ca).ms.length ≤ 6 ∧ (∀ m ∈ (⟨[], []⟩ : Ca).ms, m.ts.length ≤ 5) ∧ (⟨[], []⟩ : Ca).cs.length ≤ 6 ∧ ([] : List ByteArray).length ≤ 3 :=
    ⟨⟨by simp, fun i hi => absurd hi (by simp), by simp, fun i hi => absurd hi (by simp)⟩, by simp, (fun m hm => by cases hm), by simp, by simp⟩
  unfold enA enS
  by_cases q : 400 < ns.length
  · rw [if_pos q, if_pos q]; exact h0
  · rw [if_neg q, if_neg q]
    by_cases p : (caB c && nsB ns) = true
    · rw [if_pos p, if_pos p]
      simp only [Bool.and_eq_true] at p
      obtain ⟨⟨m6, hmr⟩, ⟨c6, hcr⟩⟩ := caB_iffC.1 p.1
      refine ⟨hS, m6, fun m hm => ?_, c6, (nsB_iff.1 p.2).1.2⟩
      obtain ⟨i, hi, rfl⟩ := List.getElem_of_mem hm
      have h7 := (hmr i hi).1
      rw [show c.ms.getD i Me.zero = c.ms[i] by simp [List.getD, hi]] at h7
      exact (me_facts h7).2.2
    · rw [if_neg p, if_neg p]; exact h0
end EngR
end Go.Proofs.YtlhghjjgpdkekaaDoor
