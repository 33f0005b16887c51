/-
  The program's rows of a ledger: impl.rowsOf. The conditions: documents that are small, their months numbers of 64 bits.
  LedgerRight on both sides. The conditions: documents that are small, their months numbers of 64 bits.
  The bytes of a ledger, on both sides. The conditions: documents that are small, their months numbers of 64 bits.
  What a ledger's text comes to when it is read: what is read is spelled by just its bytes. Bytes alone. No condition.
  A document that came in, read as rows. No condition.
  Lists of documents: read, sized, copied and held against each other by the law. The condition: at most 1048576 documents.
  Lists of documents: the law's own copies, and two lists held against each other. The condition: at most 1048576 documents, each of at most 1048576 lines.
  Lists of documents of one's own. No condition.
  The program's LedgerRead. The condition: the text has at most 8000 bytes.
-/
import Derived.Deep.RegionHeld3
import Derived.Deep.RegionWith
import Derived.Test.YtppdilomefoaaaaR2
namespace Go.Proofs.Ytppdilomefoaaaa
open Go.ChangeShapes Go.WideShapes Go.ChangeAt Go.RowKit
set_option linter.unusedVariables false
namespace LedR
open LinR RowG LtR NetR DocR
theorem new_at {w : World} {n : Nat} (h : n = w.heap.size) (cs : List Value) (T : TypeId) : BlkW n cs (w.alloc (.cells cs.toArray T)) := by subst h; exact BlkW.new w cs T
theorem omade_at {P : Program} {k : TypeId} {R : Value → Option (DataW Value × List MemPlace)} {w : World} {n : Nat} (h : n = w.heap.size) : (w.alloc (.map #[] 0)).ownsMap P k R n 0 (.map []) := by subst h; exact World.ownsMap_made w P k R
theorem al2 (w : World) (o1 o2 : Obj) : Below w.heap.size w ((w.alloc o1).alloc o2) := (al w o1).trans ((al _ o2).mono (by simp))
theorem al3 (w : World) (o1 o2 o3 : Obj) : Below w.heap.size w (((w.alloc o1).alloc o2).alloc o3) := (al2 w o1 o2).trans ((al _ o3).mono (by simp; omega))
theorem al4 (w : World) (o1 o2 o3 o4 : Obj) : Below w.heap.size w ((((w.alloc o1).alloc o2).alloc o3).alloc o4) := (al3 w o1 o2 o3).trans ((al _ o4).mono (by simp; omega))
/-- What is handed back. -/
def RowsR (ds : List D) (w : World) (e : Ending) (w' : World) : Prop := Below w.heap.size w w' ∧ ((lB ds = false ∧ ∃ c, e = .returned (.tuple #[.map none, .iface 101 (.agg #[.int .i64 c])])) ∨ (lB ds = true ∧ ∃ M, e = .returned (.tuple #[.map (some w.heap.size), .nilIface]) ∧ RowsM w.heap.size M ds w'))
set_option maxRecDepth 100000 in
set_option maxHeartbeats 8000000 in
theorem irows (ao : Option Addr) (cap : Nat) (ds : List D) (w : World) (hlen : ds.length ≤ 1048576) (hSm : ∀ d ∈ ds, d.Sm) (hwf : ∀ d ∈ ds, (Lit.int .i64 d.mo).wf = true) (hI : Dcs ao ds w) :
    Calls Try.prog 46 #[.slice ao ds.length cap] w (RowsR ds w) := by
  obtain ⟨len, hl⟩ : ∃ len, len = ds.length := ⟨_, rfl⟩
  have HI := hid_intro hI
  have HSm := hid_intro hSm
  have HWf := hid_intro hwf
  have HNO : Hid (∀ c w', lB ds = false → Below w.heap.size w w' → RowsR ds w (.returned (.tuple #[.map none, .iface 101 (.agg #[.int .i64 c])])) w') := hid_intro (fun c w' h hb => ⟨hb, .inl ⟨h, c, rfl⟩⟩)
  have HYES : Hid (∀ M w', lB ds = true → Below w.heap.size w w' → RowsM w.heap.size M ds w' → RowsR ds w (.returned (.tuple #[.map (some w.heap.size), .nilIface])) w') := hid_intro (fun M w' h hb hr => ⟨hb, .inr ⟨h, M, rfl, hr⟩⟩)
  generalize RowsR ds w = PP at *
  rw [← hl] at hlen ⊢
  have HL := hid_intro hl
  have hmm := @run_makeMap Try.prog
  clear hI hSm hwf hl
  by_cases hbig : 30 < len
  · have hbig2 : (30 : Int) < (len : Int) := by omega
    have HE : Hid (lB ds = false) := hid_intro (lB_no (fun h => by have := h.1; have := HL.out; omega))
    go_enter Try.func46, Try.ntmps46
    go_wp2_with fail
    try go_ret2
    exact HNO.out _ _ HE.out (Below.refl _ _)
  have hbig2 : ¬ (30 : Int) < (len : Int) := by omega
  have HR0 := hid_intro (rows_nil w)
  have HB0 := hid_intro (al w (.map #[] 0))
  go_enter Try.func46, Try.ntmps46
  go_wp2_with fail
  go_loopw [21] (fun z wr => ∃ k : Nat, k ≤ len ∧ z = .int .i64 k ∧ Hid (RowsM w.heap.size k (ds.take k) wr) ∧ Hid (SOk ds k) ∧ Hid (Below w.heap.size w wr)) (fun z _ => len - (intOf z).toNat)
  case atStart => exact ⟨0, by omega, rfl, HR0, hid_intro (SOk.zero ds), HB0⟩
  case round =>
    clear HR0 HB0
    obtain ⟨k, hk, rfl, HR, HS, HB⟩ := hrel
    by_cases hlt : k < len
    · have hlt2 : (k : Int) < (len : Int) := by omega
      have hkl : k < ds.length := by have := HL.out; omega
      obtain ⟨b, off, la, lc, rfl, hbl, c0, c1, c2, c3, hLi⟩ := (HI.out.below HB.out).at k hkl
      have hmem := getD_mem (z := D.zero) ds k hkl
      have HG : Hid (Good (ds.getD k D.zero).a (ds.getD k D.zero).mo) := hid_intro ⟨(HSm.out _ hmem).1, HWf.out _ hmem⟩
      have HX := hid_intro (HSm.out _ hmem)
      obtain ⟨Dm, f, h1, h2, h3, h4⟩ := HR.out
      have HST := hid_intro (fun nb W W' => rows_step (nb := nb) (W := W) (W' := W') (Dm := Dm) (f := f) (M := k) (rb := w.heap.size) hkl HG.out)
      have HKY := hid_intro (keyP HG.out)
      have HO := hid_intro h1
      have HLi := hid_intro hLi
      have hrb := h1.lt
      clear hLi hmem
      obtain ⟨X, hX⟩ : ∃ X, X = ds.getD k D.zero := ⟨_, rfl⟩
      rw [← hX] at c0 c1 c2 c3 HG HX HKY HLi
      have HXX := hid_intro hX
      clear hX
      obtain ⟨xa, xm, xs, xl⟩ := X
      dsimp only at c0 c1 c2 c3 HKY HG
      have H1 := hid_intro h1
      have H2 := hid_intro h2
      have H3 := hid_intro h3
      have H4 := hid_intro h4
      generalize hxl : xl.length = ll at *
      obtain ⟨c, hc0⟩ : ∃ c : Int, c = ((cnt (ds.take k) xa xm : Nat) : Int) := ⟨_, rfl⟩
      have HC0 := hid_intro hc0
      by_cases hc : cnt (ds.take k) xa xm = 0
      · have hhas : Maps.has Dm (kP xa xm) = false := by
          cases hh : Maps.has Dm (kP xa xm)
          · rfl
          · obtain ⟨a, m, g, e, hn⟩ := h2 _ hh
            obtain ⟨rfl, rfl⟩ := kP_inj HG.out g e
            exact absurd hc hn
        obtain ⟨v, ps, hrun, hv⟩ := ((h1.alloc (.cells #[.string xa, .int .i64 xm, .int .i64 xs, .slice la ll lc] 25)).alloc (.cells #[.string xa, .int .i64 xm] 103)).look_ok keyedP Try.underlying75 (zeroR _) (zd := .held (.agg #[.int .i64 0, .map none])) (zp := []) rfl HKY.out
        obtain rfl : v = .agg #[.int .i64 c, .map none] := by
          rw [Maps.atKey_of_not_has hhas] at hv
          simp [RV] at hv
          rw [hc0, hc]
          exact hv.1
        rw [hhas] at hrun
        clear hv h1 h2 h3 h4 hhas hc0
        go_wp2_with fail
        obtain ⟨W2, hW2⟩ : ∃ W2, W2 = (((wr.alloc (.cells #[.string xa, .int .i64 xm, .int .i64 xs, .slice la ll lc] 25)).alloc (.cells #[.string xa, .int .i64 xm] 103)).alloc (.cells #[.int .i64 c, .map (some (wr.heap.size + 1 + 1 + 1))] 107)).alloc (.map #[] 0) := ⟨_, rfl⟩
        obtain ⟨nb, hnb⟩ : ∃ nb, nb = wr.heap.size + 1 + 1 + 1 := ⟨_, rfl⟩
        have HBW : Hid (Below wr.heap.size wr W2) := hid_intro (by rw [hW2]; exact al4 _ _ _ _ _)
        have X1 : Hid (BlkW wr.heap.size [.string xa, .int .i64 xm, .int .i64 xs, .slice la ll lc] W2) := hid_intro (by rw [hW2]; exact (((BlkW.new wr [.string xa, .int .i64 xm, .int .i64 xs, .slice la ll lc] 25).below (al _ _)).below (al _ _)).below (al _ _))
        have X2 : Hid (BlkW (wr.heap.size + 1) [.string xa, .int .i64 xm] W2) := hid_intro (by rw [hW2]; exact ((new_at (w := wr.alloc (.cells #[.string xa, .int .i64 xm, .int .i64 xs, .slice la ll lc] 25)) (by simp) [.string xa, .int .i64 xm] 103).below (al _ _)).below (al _ _))
        have X3 : Hid (BlkW (wr.heap.size + 1 + 1) [.int .i64 c, .map (some nb)] W2) := hid_intro (by rw [hW2, hnb]; exact (new_at (w := (wr.alloc (.cells #[.string xa, .int .i64 xm, .int .i64 xs, .slice la ll lc] 25)).alloc (.cells #[.string xa, .int .i64 xm] 103)) (by simp) _ 107).below (al _ _))
        obtain ⟨Dn, M', hM', hNM, hNN⟩ : ∃ Dn M', M' ≤ 6 * k ∧ W2.ownsMap Try.prog 9 (plainElem (H := Value) Try.prog 2) nb M' Dn ∧ NetM Dn (net (ds.take k) xa xm) := ⟨.map [], 0, by omega, by rw [hW2, hnb]; exact omade_at (by simp), by rw [net_zero hc]; exact netM_nil⟩
        have HNM := hid_intro hNM
        have HNN := hid_intro hNN
        have HNB : Hid (w.heap.size < nb ∧ nb < W2.heap.size ∧ ((cnt (ds.take k) xa xm ≠ 0 ∧ nb = f xa xm) ∨ (cnt (ds.take k) xa xm = 0 ∧ wr.heap.size ≤ nb)) ∧ nb ≠ wr.heap.size ∧ nb ≠ (wr.heap.size + 1) ∧ nb ≠ (wr.heap.size + 1 + 1)) := hid_intro (by rw [hnb, hW2]; refine ⟨?_, ?_, .inr ⟨hc, ?_⟩, ?_, ?_, ?_⟩ <;> (try simp) <;> (try omega))
        rw [← hW2]
        rw [← hnb]
        clear hW2 hnb hNM hNN hrun
        replace HO := hid_intro (omap_below HO.out HBW.out)
        have HD : Hid (Calls Try.prog 64 #[.agg #[.string xa, .int .i64 xm, .int .i64 xs, .slice la ll lc]] W2 fun e w' => e = .returned (.bool (dB ⟨xa, xm, xs, xl⟩)) ∧ Below W2.heap.size W2 w') := hid_intro (by
          have h := impl_doc ⟨xa, xm, xs, xl⟩ la lc W2 HX.out (HLi.out.below HBW.out)
          simp only [dcells, hxl] at h
          exact h)
        have HDB := hid_intro (fun h : dB ⟨xa, xm, xs, xl⟩ = true => dB_lines h)
        have HDN : Hid (dB ⟨xa, xm, xs, xl⟩ = false ∨ xs ≠ c → lB ds = false) := hid_intro (fun h => lB_no (fun hr => by
          have h1 := hr.2.1 k hkl
          rw [← HXX.out] at h1
          rcases h with h | h
          · rw [h] at h1; exact absurd h1.1 (by simp)
          · exact h (h1.2.trans HC0.out.symm)))
        have HSO : Hid (dB ⟨xa, xm, xs, xl⟩ = true → xs = c → SOk ds (k + 1)) := hid_intro (fun h1 h2 => HS.out.more (by rw [← HXX.out]; exact h1) (by rw [← HXX.out]; exact h2.trans HC0.out))
        generalize dB ⟨xa, xm, xs, xl⟩ = r at *
        have a2 : W2.cell? ⟨wr.heap.size, 2, none⟩ = some (.int .i64 xs) := X1.out.1.2 2 (by simp)
        have a3 : W2.cell? ⟨wr.heap.size, 3, none⟩ = some (.slice la ll lc) := X1.out.1.2 3 (by simp)
        have a1l := X1.out.1.1
        have p0 : W2.cell? ⟨(wr.heap.size + 1), 0, none⟩ = some (.string xa) := X2.out.1.2 0 (by simp)
        have p1 : W2.cell? ⟨(wr.heap.size + 1), 1, none⟩ = some (.int .i64 xm) := X2.out.1.2 1 (by simp)
        have p2l := X2.out.1.1
        have r0 : W2.cell? ⟨(wr.heap.size + 1 + 1), 0, none⟩ = some (.int .i64 c) := X3.out.1.2 0 (by simp)
        have r1 : W2.cell? ⟨(wr.heap.size + 1 + 1), 1, none⟩ = some (.map (some nb)) := X3.out.1.2 1 (by simp)
        have rf : W2.frozen? ⟨(wr.heap.size + 1 + 1), 0, none⟩ = false := X3.out.2 0 (by simp)
        have r3l := X3.out.1.1
        refine HD.out.mono ?_
        rintro e w3 ⟨rfl, hb3⟩
        clear a2 a3 a1l p0 p1 p2l r0 r1 rf r3l
        have HB3 := hid_intro (HB.out.trans ((HBW.out.trans (hb3.mono HBW.out.size)).mono HB.out.size))
        have HBW3 := hid_intro (HBW.out.trans (hb3.mono HBW.out.size))
        have hsz3 := hb3.size
        replace X1 := hid_intro (X1.out.below hb3)
        replace X2 := hid_intro (X2.out.below hb3)
        replace X3 := hid_intro (X3.out.below hb3)
        replace HNM := hid_intro (omap_below HNM.out hb3)
        replace HO := hid_intro (omap_below HO.out hb3)
        clear hb3 HD HBW
        cases r
        · have HE := hid_intro (HDN.out (.inl rfl))
          have a2 : w3.cell? ⟨wr.heap.size, 2, none⟩ = some (.int .i64 xs) := X1.out.1.2 2 (by simp)
          have a3 : w3.cell? ⟨wr.heap.size, 3, none⟩ = some (.slice la ll lc) := X1.out.1.2 3 (by simp)
          have a1l := X1.out.1.1
          have p0 : w3.cell? ⟨(wr.heap.size + 1), 0, none⟩ = some (.string xa) := X2.out.1.2 0 (by simp)
          have p1 : w3.cell? ⟨(wr.heap.size + 1), 1, none⟩ = some (.int .i64 xm) := X2.out.1.2 1 (by simp)
          have p2l := X2.out.1.1
          have r0 : w3.cell? ⟨(wr.heap.size + 1 + 1), 0, none⟩ = some (.int .i64 c) := X3.out.1.2 0 (by simp)
          have r1 : w3.cell? ⟨(wr.heap.size + 1 + 1), 1, none⟩ = some (.map (some nb)) := X3.out.1.2 1 (by simp)
          have rf : w3.frozen? ⟨(wr.heap.size + 1 + 1), 0, none⟩ = false := X3.out.2 0 (by simp)
          have r3l := X3.out.1.1
          go_wp2_with fail
          try go_ret2
          exact HNO.out _ _ HE.out HB3.out
        have HRG := hid_intro (HDB.out rfl)
        by_cases hsq : xs = c
        · have HSK := hid_intro (HSO.out rfl hsq)
          subst hsq
          have hq : (xs != xs) = false := by simp
          have h6 : xl.length ≤ 6 := HRG.out.1
          have HNF := hid_intro (net_facts (ds := ds) k (by omega) HS.out xa xm)
          have HBR := hid_intro (bring_any la lc xl 1 nb M' Dn (net (ds.take k) xa xm) (6000000000000000 * (k : Int)) w3 (.inl rfl) (by omega) HX.out.2.2 (right_bd HRG.out) HNM.out (by omega) HNN.out (by omega) HNF.out.2.2 (HLi.out.below HBW3.out))
          rw [hxl] at HBR
          have a2 : w3.cell? ⟨wr.heap.size, 2, none⟩ = some (.int .i64 xs) := X1.out.1.2 2 (by simp)
          have a3 : w3.cell? ⟨wr.heap.size, 3, none⟩ = some (.slice la ll lc) := X1.out.1.2 3 (by simp)
          have a1l := X1.out.1.1
          have p0 : w3.cell? ⟨(wr.heap.size + 1), 0, none⟩ = some (.string xa) := X2.out.1.2 0 (by simp)
          have p1 : w3.cell? ⟨(wr.heap.size + 1), 1, none⟩ = some (.int .i64 xm) := X2.out.1.2 1 (by simp)
          have p2l := X2.out.1.1
          have r0 : w3.cell? ⟨(wr.heap.size + 1 + 1), 0, none⟩ = some (.int .i64 xs) := X3.out.1.2 0 (by simp)
          have r1 : w3.cell? ⟨(wr.heap.size + 1 + 1), 1, none⟩ = some (.map (some nb)) := X3.out.1.2 1 (by simp)
          have rf : w3.frozen? ⟨(wr.heap.size + 1 + 1), 0, none⟩ = false := X3.out.2 0 (by simp)
          have r3l := X3.out.1.1
          go_wp2_with fail
          refine HBR.out.mono ?_
          rintro e w4 ⟨rfl, ⟨D4, hO4, hN4⟩, _, hg4⟩
          clear a2 a3 a1l p0 p1 p2l r0 r1 rf r3l
          have hn := HNB.out
          have X1 := hid_intro (blkw_grown X1.out hg4 (by simp; omega))
          have X2 := hid_intro (blkw_grown X2.out hg4 (by simp; omega))
          have X3 := hid_intro (blkw_grown X3.out hg4 (by simp; omega))
          have HO4 := hid_intro (HO.out.kept hg4 (by simp; omega))
          have HN4 := hid_intro hO4
          have HM4 := hid_intro hN4
          have HB4 := hid_intro (HB3.out.grown hg4 HB3.out.size (fun k e => by cases e; omega))
          have HG4 := hid_intro hg4
          have hsz4 := hg4.size
          have hcw : wrap64 (xs + 1) = xs + 1 := by have := HC0.out; have := cnt_le (ds.take k) xa xm; have h2 : (ds.take k).length ≤ k := List.length_take_le k ds; unfold wrap64; omega
          have HO5 := hid_intro (HO4.out.setCell (a := ⟨(wr.heap.size + 1 + 1), 0, none⟩) (show w.heap.size ≠ (wr.heap.size + 1 + 1) by have := HB.out.size; omega) (.int .i64 (xs + 1)))
          have X25 := hid_intro (DocR.BlkW.other X2.out (wr.heap.size + 1 + 1) 0 (.int .i64 (xs + 1)) (by omega))
          have X35 := hid_intro (X3.out.set 0 (.int .i64 (xs + 1)) (by simp))
          clear hO4 hN4 hg4 HBR
          have a2 : w4.cell? ⟨wr.heap.size, 2, none⟩ = some (.int .i64 xs) := X1.out.1.2 2 (by simp)
          have a3 : w4.cell? ⟨wr.heap.size, 3, none⟩ = some (.slice la ll lc) := X1.out.1.2 3 (by simp)
          have a1l := X1.out.1.1
          have p0 : w4.cell? ⟨(wr.heap.size + 1), 0, none⟩ = some (.string xa) := X2.out.1.2 0 (by simp)
          have p1 : w4.cell? ⟨(wr.heap.size + 1), 1, none⟩ = some (.int .i64 xm) := X2.out.1.2 1 (by simp)
          have p2l := X2.out.1.1
          have r0 : w4.cell? ⟨(wr.heap.size + 1 + 1), 0, none⟩ = some (.int .i64 xs) := X3.out.1.2 0 (by simp)
          have r1 : w4.cell? ⟨(wr.heap.size + 1 + 1), 1, none⟩ = some (.map (some nb)) := X3.out.1.2 1 (by simp)
          have rf : w4.frozen? ⟨(wr.heap.size + 1 + 1), 0, none⟩ = false := X3.out.2 0 (by simp)
          have r3l := X3.out.1.1
          have q0 : (w4.setCell ⟨(wr.heap.size + 1 + 1), 0, none⟩ (.int .i64 (xs + 1))).cell? ⟨(wr.heap.size + 1), 0, none⟩ = some (.string xa) := X25.out.1.2 0 (by simp)
          have q1 : (w4.setCell ⟨(wr.heap.size + 1 + 1), 0, none⟩ (.int .i64 (xs + 1))).cell? ⟨(wr.heap.size + 1), 1, none⟩ = some (.int .i64 xm) := X25.out.1.2 1 (by simp)
          have t0 : (w4.setCell ⟨(wr.heap.size + 1 + 1), 0, none⟩ (.int .i64 (xs + 1))).cell? ⟨(wr.heap.size + 1 + 1), 0, none⟩ = some (.int .i64 (xs + 1)) := X35.out.1.2 0 (by simp)
          have t1 : (w4.setCell ⟨(wr.heap.size + 1 + 1), 0, none⟩ (.int .i64 (xs + 1))).cell? ⟨(wr.heap.size + 1 + 1), 1, none⟩ = some (.map (some nb)) := X35.out.1.2 1 (by simp)
          go_wp2_with (at_mapUpdate; refine wpList_mapUpdate_own _ rfl _ _ _ 75 rfl 103 107 keyedP Try.underlying75 RV w.heap.size k Dm rfl HO5.out (by unfold maxLen; omega) _ _ _ rfl rfl HKY.out (.held (.agg #[.int .i64 (xs + 1), .map (some nb)])) [] rfl ?_; intro w6 hown hgrow)
          have HRS : Hid (RowsM w.heap.size (k + 1) (ds.take (k + 1)) w6) := hid_intro (by
            have hz6 := hgrow.size
            have hz5 : (w4.setCell ⟨(wr.heap.size + 1 + 1), 0, none⟩ (.int .i64 (xs + 1))).heap.size = w4.heap.size := by simp
            have hst := HST.out nb wr w6
            rw [← HXX.out] at hst
            dsimp only at hst
            refine hst H1.out H2.out H3.out H4.out ⟨hn.1, by omega⟩ hn.2.2.1 (by rw [← HC0.out]; exact hown) ⟨D4, M' + ll, by omega, ?_, HM4.out⟩ (fun b0 hb0 n1 n2 => ?_) (by have := HBW3.out.size; omega)
            · exact (HN4.out.setCell (a := ⟨(wr.heap.size + 1 + 1), 0, none⟩) (show nb ≠ (wr.heap.size + 1 + 1) by omega) _).kept hgrow (by simp; omega)
            · have e1 := hgrow.block b0 (by rw [hz5]; have := HBW3.out.size; omega) (by simpa using n1)
              have e2 : (w4.setCell ⟨(wr.heap.size + 1 + 1), 0, none⟩ (.int .i64 (xs + 1))).heap[b0]? = w4.heap[b0]? := by
                simp only [World.setCell]
                rw [Array.getElem?_modify, if_neg (by omega)]
              have e3 := HG4.out.block b0 (by have := HBW3.out.size; omega) (by simpa using n2)
              exact ((e1.trans e2).trans e3).trans (HBW3.out.block b0 hb0))
          have HB6 : Hid (Below w.heap.size w w6) := hid_intro ((HB4.out.setCell (p := ⟨(wr.heap.size + 1 + 1), 0, none⟩) (show w.heap.size ≤ (wr.heap.size + 1 + 1) by have := HB.out.size; omega) _).grown hgrow (by have := HB4.out.size; simpa using this) (fun k e => by cases e; exact Nat.le_refl _))
          clear a2 a3 a1l p0 p1 p2l r0 r1 rf r3l
          clear hown hgrow q0 q1 t0 t1
          go_wp2_with fail
          go_roundw
          case rel => exact ⟨k + 1, by omega, by go_num, HRS, HSK, HB6⟩
          case measure => simp [intOf]; omega
        · have hq : (xs != c) = true := by simpa using hsq
          have HE := hid_intro (HDN.out (.inr hsq))
          have a2 : w3.cell? ⟨wr.heap.size, 2, none⟩ = some (.int .i64 xs) := X1.out.1.2 2 (by simp)
          have a3 : w3.cell? ⟨wr.heap.size, 3, none⟩ = some (.slice la ll lc) := X1.out.1.2 3 (by simp)
          have a1l := X1.out.1.1
          have p0 : w3.cell? ⟨(wr.heap.size + 1), 0, none⟩ = some (.string xa) := X2.out.1.2 0 (by simp)
          have p1 : w3.cell? ⟨(wr.heap.size + 1), 1, none⟩ = some (.int .i64 xm) := X2.out.1.2 1 (by simp)
          have p2l := X2.out.1.1
          have r0 : w3.cell? ⟨(wr.heap.size + 1 + 1), 0, none⟩ = some (.int .i64 c) := X3.out.1.2 0 (by simp)
          have r1 : w3.cell? ⟨(wr.heap.size + 1 + 1), 1, none⟩ = some (.map (some nb)) := X3.out.1.2 1 (by simp)
          have rf : w3.frozen? ⟨(wr.heap.size + 1 + 1), 0, none⟩ = false := X3.out.2 0 (by simp)
          have r3l := X3.out.1.1
          go_wp2_with fail
          try go_ret2
          exact HNO.out _ _ HE.out HB3.out
      · have hatk := (h3 xa xm hc).2.1
        have hhas : Maps.has Dm (kP xa xm) = true := Maps.has_true_of_atKey hatk
        obtain ⟨v, ps, hrun, hv⟩ := ((h1.alloc (.cells #[.string xa, .int .i64 xm, .int .i64 xs, .slice la ll lc] 25)).alloc (.cells #[.string xa, .int .i64 xm] 103)).look_ok keyedP Try.underlying75 (zeroR _) (zd := .held (.agg #[.int .i64 0, .map none])) (zp := []) rfl HKY.out
        obtain rfl : v = .agg #[.int .i64 c, .map (some (f xa xm))] := by
          rw [hatk, ← hc0] at hv
          simp [RV] at hv
          exact hv.1
        rw [hhas] at hrun
        clear hv h1 h2 h3 h4 hhas hc0 hatk
        go_wp2_with fail
        obtain ⟨W2, hW2⟩ : ∃ W2, W2 = ((wr.alloc (.cells #[.string xa, .int .i64 xm, .int .i64 xs, .slice la ll lc] 25)).alloc (.cells #[.string xa, .int .i64 xm] 103)).alloc (.cells #[.int .i64 c, .map (some (f xa xm))] 107) := ⟨_, rfl⟩
        obtain ⟨nb, hnb⟩ : ∃ nb, nb = f xa xm := ⟨_, rfl⟩
        have HBW : Hid (Below wr.heap.size wr W2) := hid_intro (by rw [hW2]; exact al3 _ _ _ _)
        have X1 : Hid (BlkW wr.heap.size [.string xa, .int .i64 xm, .int .i64 xs, .slice la ll lc] W2) := hid_intro (by rw [hW2]; exact ((BlkW.new wr [.string xa, .int .i64 xm, .int .i64 xs, .slice la ll lc] 25).below (al _ _)).below (al _ _))
        have X2 : Hid (BlkW (wr.heap.size + 1) [.string xa, .int .i64 xm] W2) := hid_intro (by rw [hW2]; exact (new_at (w := wr.alloc (.cells #[.string xa, .int .i64 xm, .int .i64 xs, .slice la ll lc] 25)) (by simp) [.string xa, .int .i64 xm] 103).below (al _ _))
        have X3 : Hid (BlkW (wr.heap.size + 1 + 1) [.int .i64 c, .map (some nb)] W2) := hid_intro (by rw [hW2, hnb]; exact new_at (w := (wr.alloc (.cells #[.string xa, .int .i64 xm, .int .i64 xs, .slice la ll lc] 25)).alloc (.cells #[.string xa, .int .i64 xm] 103)) (by simp) _ 107)
        obtain ⟨Dn, M', hM', hNM, hNN⟩ : ∃ Dn M', M' ≤ 6 * k ∧ W2.ownsMap Try.prog 9 (plainElem (H := Value) Try.prog 2) nb M' Dn ∧ NetM Dn (net (ds.take k) xa xm) := by
          obtain ⟨_, _, _, q3, Dn, M', q4, q5, q6⟩ := H3.out xa xm hc
          refine ⟨Dn, M', ?_, ?_, q6⟩
          · have h2 : (ds.take k).length ≤ k := List.length_take_le k ds
            omega
          · rw [hnb]; exact omap_below q5 HBW.out
        have HNM := hid_intro hNM
        have HNN := hid_intro hNN
        have HNB : Hid (w.heap.size < nb ∧ nb < W2.heap.size ∧ ((cnt (ds.take k) xa xm ≠ 0 ∧ nb = f xa xm) ∨ (cnt (ds.take k) xa xm = 0 ∧ wr.heap.size ≤ nb)) ∧ nb ≠ wr.heap.size ∧ nb ≠ (wr.heap.size + 1) ∧ nb ≠ (wr.heap.size + 1 + 1)) := hid_intro (by
          obtain ⟨_, _, q2, q3, _⟩ := H3.out xa xm hc
          have := HBW.out.size
          rw [hnb]
          exact ⟨q2, by omega, .inl ⟨hc, rfl⟩, by omega, by omega, by omega⟩)
        rw [← hW2]
        rw [← hnb]
        clear hW2 hnb hNM hNN hrun
        replace HO := hid_intro (omap_below HO.out HBW.out)
        have HD : Hid (Calls Try.prog 64 #[.agg #[.string xa, .int .i64 xm, .int .i64 xs, .slice la ll lc]] W2 fun e w' => e = .returned (.bool (dB ⟨xa, xm, xs, xl⟩)) ∧ Below W2.heap.size W2 w') := hid_intro (by
          have h := impl_doc ⟨xa, xm, xs, xl⟩ la lc W2 HX.out (HLi.out.below HBW.out)
          simp only [dcells, hxl] at h
          exact h)
        have HDB := hid_intro (fun h : dB ⟨xa, xm, xs, xl⟩ = true => dB_lines h)
        have HDN : Hid (dB ⟨xa, xm, xs, xl⟩ = false ∨ xs ≠ c → lB ds = false) := hid_intro (fun h => lB_no (fun hr => by
          have h1 := hr.2.1 k hkl
          rw [← HXX.out] at h1
          rcases h with h | h
          · rw [h] at h1; exact absurd h1.1 (by simp)
          · exact h (h1.2.trans HC0.out.symm)))
        have HSO : Hid (dB ⟨xa, xm, xs, xl⟩ = true → xs = c → SOk ds (k + 1)) := hid_intro (fun h1 h2 => HS.out.more (by rw [← HXX.out]; exact h1) (by rw [← HXX.out]; exact h2.trans HC0.out))
        generalize dB ⟨xa, xm, xs, xl⟩ = r at *
        have a2 : W2.cell? ⟨wr.heap.size, 2, none⟩ = some (.int .i64 xs) := X1.out.1.2 2 (by simp)
        have a3 : W2.cell? ⟨wr.heap.size, 3, none⟩ = some (.slice la ll lc) := X1.out.1.2 3 (by simp)
        have a1l := X1.out.1.1
        have p0 : W2.cell? ⟨(wr.heap.size + 1), 0, none⟩ = some (.string xa) := X2.out.1.2 0 (by simp)
        have p1 : W2.cell? ⟨(wr.heap.size + 1), 1, none⟩ = some (.int .i64 xm) := X2.out.1.2 1 (by simp)
        have p2l := X2.out.1.1
        have r0 : W2.cell? ⟨(wr.heap.size + 1 + 1), 0, none⟩ = some (.int .i64 c) := X3.out.1.2 0 (by simp)
        have r1 : W2.cell? ⟨(wr.heap.size + 1 + 1), 1, none⟩ = some (.map (some nb)) := X3.out.1.2 1 (by simp)
        have rf : W2.frozen? ⟨(wr.heap.size + 1 + 1), 0, none⟩ = false := X3.out.2 0 (by simp)
        have r3l := X3.out.1.1
        refine HD.out.mono ?_
        rintro e w3 ⟨rfl, hb3⟩
        clear a2 a3 a1l p0 p1 p2l r0 r1 rf r3l
        have HB3 := hid_intro (HB.out.trans ((HBW.out.trans (hb3.mono HBW.out.size)).mono HB.out.size))
        have HBW3 := hid_intro (HBW.out.trans (hb3.mono HBW.out.size))
        have hsz3 := hb3.size
        replace X1 := hid_intro (X1.out.below hb3)
        replace X2 := hid_intro (X2.out.below hb3)
        replace X3 := hid_intro (X3.out.below hb3)
        replace HNM := hid_intro (omap_below HNM.out hb3)
        replace HO := hid_intro (omap_below HO.out hb3)
        clear hb3 HD HBW
        cases r
        · have HE := hid_intro (HDN.out (.inl rfl))
          have a2 : w3.cell? ⟨wr.heap.size, 2, none⟩ = some (.int .i64 xs) := X1.out.1.2 2 (by simp)
          have a3 : w3.cell? ⟨wr.heap.size, 3, none⟩ = some (.slice la ll lc) := X1.out.1.2 3 (by simp)
          have a1l := X1.out.1.1
          have p0 : w3.cell? ⟨(wr.heap.size + 1), 0, none⟩ = some (.string xa) := X2.out.1.2 0 (by simp)
          have p1 : w3.cell? ⟨(wr.heap.size + 1), 1, none⟩ = some (.int .i64 xm) := X2.out.1.2 1 (by simp)
          have p2l := X2.out.1.1
          have r0 : w3.cell? ⟨(wr.heap.size + 1 + 1), 0, none⟩ = some (.int .i64 c) := X3.out.1.2 0 (by simp)
          have r1 : w3.cell? ⟨(wr.heap.size + 1 + 1), 1, none⟩ = some (.map (some nb)) := X3.out.1.2 1 (by simp)
          have rf : w3.frozen? ⟨(wr.heap.size + 1 + 1), 0, none⟩ = false := X3.out.2 0 (by simp)
          have r3l := X3.out.1.1
          go_wp2_with fail
          try go_ret2
          exact HNO.out _ _ HE.out HB3.out
        have HRG := hid_intro (HDB.out rfl)
        by_cases hsq : xs = c
        · have HSK := hid_intro (HSO.out rfl hsq)
          subst hsq
          have hq : (xs != xs) = false := by simp
          have h6 : xl.length ≤ 6 := HRG.out.1
          have HNF := hid_intro (net_facts (ds := ds) k (by omega) HS.out xa xm)
          have HBR := hid_intro (bring_any la lc xl 1 nb M' Dn (net (ds.take k) xa xm) (6000000000000000 * (k : Int)) w3 (.inl rfl) (by omega) HX.out.2.2 (right_bd HRG.out) HNM.out (by omega) HNN.out (by omega) HNF.out.2.2 (HLi.out.below HBW3.out))
          rw [hxl] at HBR
          have a2 : w3.cell? ⟨wr.heap.size, 2, none⟩ = some (.int .i64 xs) := X1.out.1.2 2 (by simp)
          have a3 : w3.cell? ⟨wr.heap.size, 3, none⟩ = some (.slice la ll lc) := X1.out.1.2 3 (by simp)
          have a1l := X1.out.1.1
          have p0 : w3.cell? ⟨(wr.heap.size + 1), 0, none⟩ = some (.string xa) := X2.out.1.2 0 (by simp)
          have p1 : w3.cell? ⟨(wr.heap.size + 1), 1, none⟩ = some (.int .i64 xm) := X2.out.1.2 1 (by simp)
          have p2l := X2.out.1.1
          have r0 : w3.cell? ⟨(wr.heap.size + 1 + 1), 0, none⟩ = some (.int .i64 xs) := X3.out.1.2 0 (by simp)
          have r1 : w3.cell? ⟨(wr.heap.size + 1 + 1), 1, none⟩ = some (.map (some nb)) := X3.out.1.2 1 (by simp)
          have rf : w3.frozen? ⟨(wr.heap.size + 1 + 1), 0, none⟩ = false := X3.out.2 0 (by simp)
          have r3l := X3.out.1.1
          go_wp2_with fail
          refine HBR.out.mono ?_
          rintro e w4 ⟨rfl, ⟨D4, hO4, hN4⟩, _, hg4⟩
          clear a2 a3 a1l p0 p1 p2l r0 r1 rf r3l
          have hn := HNB.out
          have X1 := hid_intro (blkw_grown X1.out hg4 (by simp; omega))
          have X2 := hid_intro (blkw_grown X2.out hg4 (by simp; omega))
          have X3 := hid_intro (blkw_grown X3.out hg4 (by simp; omega))
          have HO4 := hid_intro (HO.out.kept hg4 (by simp; omega))
          have HN4 := hid_intro hO4
          have HM4 := hid_intro hN4
          have HB4 := hid_intro (HB3.out.grown hg4 HB3.out.size (fun k e => by cases e; omega))
          have HG4 := hid_intro hg4
          have hsz4 := hg4.size
          have hcw : wrap64 (xs + 1) = xs + 1 := by have := HC0.out; have := cnt_le (ds.take k) xa xm; have h2 : (ds.take k).length ≤ k := List.length_take_le k ds; unfold wrap64; omega
          have HO5 := hid_intro (HO4.out.setCell (a := ⟨(wr.heap.size + 1 + 1), 0, none⟩) (show w.heap.size ≠ (wr.heap.size + 1 + 1) by have := HB.out.size; omega) (.int .i64 (xs + 1)))
          have X25 := hid_intro (DocR.BlkW.other X2.out (wr.heap.size + 1 + 1) 0 (.int .i64 (xs + 1)) (by omega))
          have X35 := hid_intro (X3.out.set 0 (.int .i64 (xs + 1)) (by simp))
          clear hO4 hN4 hg4 HBR
          have a2 : w4.cell? ⟨wr.heap.size, 2, none⟩ = some (.int .i64 xs) := X1.out.1.2 2 (by simp)
          have a3 : w4.cell? ⟨wr.heap.size, 3, none⟩ = some (.slice la ll lc) := X1.out.1.2 3 (by simp)
          have a1l := X1.out.1.1
          have p0 : w4.cell? ⟨(wr.heap.size + 1), 0, none⟩ = some (.string xa) := X2.out.1.2 0 (by simp)
          have p1 : w4.cell? ⟨(wr.heap.size + 1), 1, none⟩ = some (.int .i64 xm) := X2.out.1.2 1 (by simp)
          have p2l := X2.out.1.1
          have r0 : w4.cell? ⟨(wr.heap.size + 1 + 1), 0, none⟩ = some (.int .i64 xs) := X3.out.1.2 0 (by simp)
          have r1 : w4.cell? ⟨(wr.heap.size + 1 + 1), 1, none⟩ = some (.map (some nb)) := X3.out.1.2 1 (by simp)
          have rf : w4.frozen? ⟨(wr.heap.size + 1 + 1), 0, none⟩ = false := X3.out.2 0 (by simp)
          have r3l := X3.out.1.1
          have q0 : (w4.setCell ⟨(wr.heap.size + 1 + 1), 0, none⟩ (.int .i64 (xs + 1))).cell? ⟨(wr.heap.size + 1), 0, none⟩ = some (.string xa) := X25.out.1.2 0 (by simp)
          have q1 : (w4.setCell ⟨(wr.heap.size + 1 + 1), 0, none⟩ (.int .i64 (xs + 1))).cell? ⟨(wr.heap.size + 1), 1, none⟩ = some (.int .i64 xm) := X25.out.1.2 1 (by simp)
          have t0 : (w4.setCell ⟨(wr.heap.size + 1 + 1), 0, none⟩ (.int .i64 (xs + 1))).cell? ⟨(wr.heap.size + 1 + 1), 0, none⟩ = some (.int .i64 (xs + 1)) := X35.out.1.2 0 (by simp)
          have t1 : (w4.setCell ⟨(wr.heap.size + 1 + 1), 0, none⟩ (.int .i64 (xs + 1))).cell? ⟨(wr.heap.size + 1 + 1), 1, none⟩ = some (.map (some nb)) := X35.out.1.2 1 (by simp)
          go_wp2_with (at_mapUpdate; refine wpList_mapUpdate_own _ rfl _ _ _ 75 rfl 103 107 keyedP Try.underlying75 RV w.heap.size k Dm rfl HO5.out (by unfold maxLen; omega) _ _ _ rfl rfl HKY.out (.held (.agg #[.int .i64 (xs + 1), .map (some nb)])) [] rfl ?_; intro w6 hown hgrow)
          have HRS : Hid (RowsM w.heap.size (k + 1) (ds.take (k + 1)) w6) := hid_intro (by
            have hz6 := hgrow.size
            have hz5 : (w4.setCell ⟨(wr.heap.size + 1 + 1), 0, none⟩ (.int .i64 (xs + 1))).heap.size = w4.heap.size := by simp
            have hst := HST.out nb wr w6
            rw [← HXX.out] at hst
            dsimp only at hst
            refine hst H1.out H2.out H3.out H4.out ⟨hn.1, by omega⟩ hn.2.2.1 (by rw [← HC0.out]; exact hown) ⟨D4, M' + ll, by omega, ?_, HM4.out⟩ (fun b0 hb0 n1 n2 => ?_) (by have := HBW3.out.size; omega)
            · exact (HN4.out.setCell (a := ⟨(wr.heap.size + 1 + 1), 0, none⟩) (show nb ≠ (wr.heap.size + 1 + 1) by omega) _).kept hgrow (by simp; omega)
            · have e1 := hgrow.block b0 (by rw [hz5]; have := HBW3.out.size; omega) (by simpa using n1)
              have e2 : (w4.setCell ⟨(wr.heap.size + 1 + 1), 0, none⟩ (.int .i64 (xs + 1))).heap[b0]? = w4.heap[b0]? := by
                simp only [World.setCell]
                rw [Array.getElem?_modify, if_neg (by omega)]
              have e3 := HG4.out.block b0 (by have := HBW3.out.size; omega) (by simpa using n2)
              exact ((e1.trans e2).trans e3).trans (HBW3.out.block b0 hb0))
          have HB6 : Hid (Below w.heap.size w w6) := hid_intro ((HB4.out.setCell (p := ⟨(wr.heap.size + 1 + 1), 0, none⟩) (show w.heap.size ≤ (wr.heap.size + 1 + 1) by have := HB.out.size; omega) _).grown hgrow (by have := HB4.out.size; simpa using this) (fun k e => by cases e; exact Nat.le_refl _))
          clear a2 a3 a1l p0 p1 p2l r0 r1 rf r3l
          clear hown hgrow q0 q1 t0 t1
          go_wp2_with fail
          go_roundw
          case rel => exact ⟨k + 1, by omega, by go_num, HRS, HSK, HB6⟩
          case measure => simp [intOf]; omega
        · have hq : (xs != c) = true := by simpa using hsq
          have HE := hid_intro (HDN.out (.inr hsq))
          have a2 : w3.cell? ⟨wr.heap.size, 2, none⟩ = some (.int .i64 xs) := X1.out.1.2 2 (by simp)
          have a3 : w3.cell? ⟨wr.heap.size, 3, none⟩ = some (.slice la ll lc) := X1.out.1.2 3 (by simp)
          have a1l := X1.out.1.1
          have p0 : w3.cell? ⟨(wr.heap.size + 1), 0, none⟩ = some (.string xa) := X2.out.1.2 0 (by simp)
          have p1 : w3.cell? ⟨(wr.heap.size + 1), 1, none⟩ = some (.int .i64 xm) := X2.out.1.2 1 (by simp)
          have p2l := X2.out.1.1
          have r0 : w3.cell? ⟨(wr.heap.size + 1 + 1), 0, none⟩ = some (.int .i64 c) := X3.out.1.2 0 (by simp)
          have r1 : w3.cell? ⟨(wr.heap.size + 1 + 1), 1, none⟩ = some (.map (some nb)) := X3.out.1.2 1 (by simp)
          have rf : w3.frozen? ⟨(wr.heap.size + 1 + 1), 0, none⟩ = false := X3.out.2 0 (by simp)
          have r3l := X3.out.1.1
          go_wp2_with fail
          try go_ret2
          exact HNO.out _ _ HE.out HB3.out
    · have hlt2 : ¬ (k : Int) < (len : Int) := by omega
      obtain rfl : k = len := by omega
      have HT : Hid (ds.take k = ds) := hid_intro (List.take_of_length_le (by have := HL.out; omega))
      rw [HT.out] at HR
      obtain ⟨Wo, hWo⟩ : ∃ Wo, Wo = wr := ⟨_, rfl⟩
      subst hWo
      have HRK := HR
      obtain ⟨Dm, f, h1, h2, h3, h4⟩ := HR.out
      have HO := hid_intro h1
      have H2 := hid_intro h2
      have H3 := hid_intro h3
      have hrb := h1.lt
      clear h1 h2 h3 h4 HR
      have HNK : Hid (∀ a m, cnt ds a m ≠ 0 → ovB (net ds a m) = false → lB ds = false) := hid_intro (fun a m hc h => lB_no (fun hr => by
        obtain ⟨i, hi, rfl, rfl⟩ := mem_cnt hc
        have := hr.2.2 i hi
        rw [h] at this
        cases this))
      have HYK : Hid ((∀ a m, cnt ds a m ≠ 0 → ovB (net ds a m) = true) → lB ds = true) := hid_intro (fun h => lB_yes ⟨by have := HL.out; omega, by have := HS.out; rw [HL.out] at this; exact this, fun i hi => h _ _ (cnt_mem hi)⟩)
      go_wp2_with (at_range; refine wpList_range_own _ rfl _ 75 rfl 103 107 keyedP Try.underlying75 _ w.heap.size k Dm rfl HO.out ?_; intro w0 hrg0 hg0 hs0)
      have HB0 : Hid (Below Wo.heap.size Wo w0) := hid_intro ((Below.refl _ _).grown hg0 (Nat.le_refl _) (fun k e => by cases e))
      clear hg0 hs0
      try go_frame
      go_loopw [2] (fun v2 wr => ∃ (left : Lit → Bool) (cn : Nat), wr.ranges Try.prog 103 RV w.heap.size Wo.heap.size k Dm left cn ∧ Hid (∀ a m, cnt ds a m ≠ 0 → left (kP a m) = false → ovB (net ds a m) = true) ∧ Hid (Below Wo.heap.size Wo wr)) (fun _ wr => wr.rangeLeft w.heap.size Wo.heap.size)
      case atStart => exact ⟨_, _, hrg0, hid_intro (fun a m hc h => by rw [Maps.has_true_of_atKey (H3.out a m hc).2.1] at h; cases h), HB0⟩
      case round =>
        obtain ⟨left, cn, hrg, HLf, HBo⟩ := hrel
        have HRG := hid_intro hrg
        have hmeas := hrg.left_eq
        clear hrg hrg0 HB0
        have HBa := hid_intro (HB.out.trans (HBo.out.mono HB.out.size))
        go_wp2_with (at_next; refine wpList_next_ranges _ rfl _ rfl 103 keyedP _ (fun v : Value => v) (fun v : Value => v) (fun key kl h => ⟨key, rfl⟩) (fun v y h => ⟨v, rfl⟩) w.heap.size Wo.heap.size k Dm left cn rfl HRG.out ?_ ?_)
        · intro hc0 hl0
          have HE := hid_intro (HYK.out (fun a m hc => HLf.out a m hc (hl0 _)))
          have HRW := hid_intro (HRK.out.kept HBo.out)
          clear hl0
          go_wp2_with fail
          try go_ret2
          exact HYES.out k _ HE.out HBa.out HRW.out
        · intro x c kl yd yp w' cnt' hkey hlk hv hat hrg' hlt3 hgr hsz hen
          simp only [RV, Option.some.injEq, Prod.mk.injEq] at hv
          obtain ⟨rfl, _⟩ := hv
          obtain ⟨a, m, hgd, rfl, hcn⟩ := H2.out kl (Maps.has_true_of_atKey hat)
          obtain ⟨_, q1, q2, q3, Dn, M', q4, q5, q6⟩ := H3.out a m hcn
          obtain rfl : c = .agg #[.int .i64 (cnt ds a m : Nat), .map (some (f a m))] := by
            have h := (hat (.held undef)).symm.trans (q1 _)
            simpa using h
          have HB1 := hid_intro (HBo.out.grown hgr HBo.out.size (fun k e => by cases e; exact Nat.le_refl _))
          have HBb := hid_intro (HB.out.trans (HB1.out.mono HB.out.size))
          have HRG1 := hid_intro hrg'
          have hms := hrg'.left_eq
          have HOV := hid_intro (fun o => over_any (f a m) M' Dn (net ds a m) (w'.alloc o) ((omap_below q5 HB1.out).alloc o) q6)
          have HNO2 : Hid (ovB (net ds a m) = false → lB ds = false) := hid_intro (HNK.out a m hcn)
          have HL2 : Hid (ovB (net ds a m) = true → ∀ a' m', cnt ds a' m' ≠ 0 → (left (kP a' m') && !(kP a' m').sameKey (kP a m)) = false → ovB (net ds a' m') = true) := hid_intro (fun h a' m' hc' h2 => by
            cases h3 : left (kP a' m')
            · exact HLf.out a' m' hc' h3
            · rw [h3] at h2
              simp only [Bool.true_and, Bool.not_eq_false'] at h2
              obtain ⟨rfl, rfl⟩ := kP_inj (H3.out a' m' hc').1 hgd (WideAt.sameKey_eq h2)
              exact h)
          clear hkey hlk hat hrg' hgr q1 q2 q3 q4 q5 q6 HRG HLf HBo HBa
          generalize ovB (net ds a m) = r at *
          generalize ((cnt ds a m : Nat) : Int) = cc at *
          generalize f a m = nb at *
          cases r
          · have HE := hid_intro (HNO2.out rfl)
            go_wp2_with fail
            refine (HOV.out _).mono ?_
            rintro e w5 ⟨rfl, hb5⟩
            have HB5 := hid_intro (HBb.out.trans (((al w' _).trans (hb5.mono (by simp))).mono HBb.out.size))
            clear hb5
            simp only [ovE, Bool.false_eq_true, if_false]
            go_wp2_with fail
            try go_ret2
            exact HNO.out _ _ HE.out HB5.out
          · have HE := hid_intro (HL2.out rfl)
            have HRA := hid_intro (fun o => HRG1.out.alloc o)
            go_wp2_with fail
            refine (HOV.out _).mono ?_
            rintro e w5 ⟨rfl, hb5⟩
            have HB5 := hid_intro (HB1.out.trans (((al w' _).trans (hb5.mono (by simp))).mono HB1.out.size))
            have HR5 := hid_intro ((HRA.out _).kept (row := none) ⟨hb5.os, hb5.tape, hb5.output, hb5.size, fun k hk _ => hb5.block k hk⟩ (by simp) (by simp))
            have hm5 := HR5.out.left_eq
            clear hb5 hms
            simp only [ovE, if_true]
            go_wp2_with fail
            go_roundw
            case rel => exact ⟨_, _, HR5.out, HE, HB5⟩
            case measure => rw [hm5, hmeas]; exact hlt3
end LedR
end Go.Proofs.Ytppdilomefoaaaa
namespace Go.Proofs.Ytppdilomefoaaaa
open Go.ChangeShapes Go.WideShapes Go.ChangeAt Go.RowKit
set_option linter.unusedVariables false
namespace LedR
open LinR RowG LtR NetR DocR
/-- What is held while a document is asked. -/
def QB (w : World) (b o : Nat) (xa : ByteArray) (xm xs : Int) (la : Option Addr) (ll lc : Nat) (W : World) : Prop := Below w.heap.size w W ∧ b < W.heap.size ∧ W.cell? ⟨b, o, none⟩ = some (.string xa) ∧ W.cell? ⟨b, o + 1, none⟩ = some (.int .i64 xm) ∧ W.cell? ⟨b, o + 2, none⟩ = some (.int .i64 xs) ∧ W.cell? ⟨b, o + 3, none⟩ = some (.slice la ll lc)
theorem QB.below {w : World} {b o : Nat} {xa : ByteArray} {xm xs : Int} {la : Option Addr} {ll lc : Nat} {W W' : World} (h : QB w b o xa xm xs la ll lc W) (hb : Below W.heap.size W W') : QB w b o xa xm xs la ll lc W' := by
  obtain ⟨h0, hl, p0, p1, p2, p3⟩ := h
  have f := fun x => hb.cell (p := ⟨b, x, none⟩) hl
  exact ⟨h0.trans (hb.mono h0.size), by have := hb.size; omega, (f _).trans p0, (f _).trans p1, (f _).trans p2, (f _).trans p3⟩
set_option maxRecDepth 100000 in
set_option maxHeartbeats 8000000 in
theorem spec_ledger (ao : Option Addr) (cap : Nat) (ds : List D) (w : World) (hlen : ds.length ≤ 1048576) (hSm : ∀ d ∈ ds, d.Sm) (hI : Dcs ao ds w) :
    Calls Try.prog 36 #[.slice ao ds.length cap] w fun e w' => e = .returned (.bool (lB ds)) ∧ Below w.heap.size w w' := by
  have HI := hid_intro hI
  have HSm := hid_intro hSm
  obtain ⟨len, hl⟩ : ∃ len, len = ds.length := ⟨_, rfl⟩
  obtain ⟨R, hR⟩ : ∃ R, lB ds = R := ⟨_, rfl⟩
  rw [hR, ← hl]
  rw [← hl] at hlen
  have HR := hid_intro hR
  have HL := hid_intro hl
  clear hI hSm hl hR
  by_cases hbig : 30 < len
  · have hbig2 : (30 : Int) < (len : Int) := by omega
    have HE : Hid (R = false) := hid_intro (by rw [← HR.out]; exact lB_no (fun h => by have := h.1; have := HL.out; omega))
    go_enter Try.func36, Try.ntmps36
    go_wp2_with fail
    go_ret
    exact ⟨by rw [HE.out]; rfl, Below.refl _ _⟩
  have hbig2 : ¬ (30 : Int) < (len : Int) := by omega
  go_enter Try.func36, Try.ntmps36
  go_wp2_with fail
  go_loopw [3] (fun z wr => ∃ k : Nat, k ≤ len ∧ z = .int .i64 k ∧ Hid (SOk ds k) ∧ Hid (Below w.heap.size w wr)) (fun z _ => len - (intOf z).toNat)
  case atStart => exact ⟨0, by omega, rfl, hid_intro (SOk.zero ds), hid_intro (Below.refl _ _)⟩
  case round =>
    obtain ⟨k, hk, rfl, HS, HB⟩ := hrel
    by_cases hlt : k < len
    · have hlt2 : (k : Int) < (len : Int) := by omega
      have hkl : k < ds.length := by have := HL.out; omega
      obtain ⟨b, off, la, lc, rfl, hbl, c0, c1, c2, c3, hLi⟩ := (HI.out.below HB.out).at k hkl
      have hmem := getD_mem (z := D.zero) ds k hkl
      have HX := hid_intro (HSm.out _ hmem)
      have HLi := hid_intro hLi
      obtain ⟨X, hX⟩ : ∃ X, X = ds.getD k D.zero := ⟨_, rfl⟩
      rw [← hX] at c0 c1 c2 c3 HX HLi
      have HXX := hid_intro hX
      clear hX hLi hmem
      obtain ⟨xa, xm, xs, xl⟩ := X
      dsimp only at c0 c1 c2 c3
      have HC : Hid (∀ W, Below w.heap.size w W → Calls Try.prog 58 #[.slice (some ⟨b, off, none⟩) len cap, .int .i64 k, .string xa, .int .i64 xm] W fun e w' => e = .returned (.int .i64 (cnt (ds.take k) xa xm : Nat)) ∧ Below W.heap.size W w') := hid_intro (fun W hW => by have h := scount (some ⟨b, off, none⟩) cap ds k xa xm W (by omega) (by have := HL.out; omega) (HI.out.below hW); rw [← HL.out] at h; exact h)
      generalize hxl : xl.length = ll at *
      have HD : Hid (Calls Try.prog 57 #[.agg #[.string xa, .int .i64 xm, .int .i64 xs, .slice la ll lc]] wr.drew fun e w' => e = .returned (.bool (dB ⟨xa, xm, xs, xl⟩)) ∧ Below wr.drew.heap.size wr.drew w') := hid_intro (by
        have h := spec_doc ⟨xa, xm, xs, xl⟩ la lc wr.drew HX.out (HLi.out.below (Below.refl _ _).drew)
        simp only [dcells, hxl] at h
        exact h)
      have HDN : Hid (dB ⟨xa, xm, xs, xl⟩ = false ∨ xs ≠ ((cnt (ds.take k) xa xm : Nat) : Int) → R = false) := hid_intro (fun h => by rw [← HR.out]; exact lB_no (fun hr => by
        have h1 := hr.2.1 k hkl
        rw [← HXX.out] at h1
        rcases h with h | h
        · rw [h] at h1; exact absurd h1.1 (by simp)
        · exact h h1.2))
      have HSO : Hid (dB ⟨xa, xm, xs, xl⟩ = true → xs = ((cnt (ds.take k) xa xm : Nat) : Int) → SOk ds (k + 1)) := hid_intro (fun h1 h2 => HS.out.more (by rw [← HXX.out]; exact h1) (by rw [← HXX.out]; exact h2))
      have HS0 : Hid (QB w b (off + k * 4) xa xm xs la ll lc wr.drew) := hid_intro ⟨HB.out.drew, hbl, c0, c1, c2, c3⟩
      generalize dB ⟨xa, xm, xs, xl⟩ = r at *
      generalize ((cnt (ds.take k) xa xm : Nat) : Int) = cc at *
      clear c0 c1 c2 c3 HX HLi
      cases r
      · have HE := hid_intro (HDN.out (.inl rfl))
        go_wp2_with fail
        refine wp_region_held_drew (S := (fun W => Below w.heap.size w W ∧ b < W.heap.size ∧ W.cell? ⟨b, off + k * 4, none⟩ = some (.string xa) ∧ W.cell? ⟨b, off + k * 4 + 1, none⟩ = some (.int .i64 xm) ∧ W.cell? ⟨b, off + k * 4 + 2, none⟩ = some (.int .i64 xs) ∧ W.cell? ⟨b, off + k * 4 + 3, none⟩ = some (.slice la ll lc))) (by kernel_rfl) HS0.out (fun hHeld => ?_)
        refine wpAnyH_take (i := 0) (oi := { dst := some 16, op := Op.move (Operand.tmp 0), type := 22, pos := "l09_ledger.go:69", after := #[], guard := none }) (v := ?_) rfl (by kernel_rfl) (by kernel_rfl) (by kernel_rfl) (fun _ _ _ h => h) (Or.inl ⟨by rfl, ?_⟩) (by assumption) ?_
        rotate_left
        · (intro w hSw; (try dsimp only at hSw); go_simp) <;> with_reducible rfl
        try simp only [Act.put, List.setIfInBounds_toArray, List.set_cons_zero, List.set_cons_succ]
        refine wpAnyH_take (i := 1) (oi := { dst := some 17, op := Op.move (Operand.tmp 3), type := 3, pos := "l09_ledger.go:69", after := #[], guard := none }) (v := ?_) rfl (by kernel_rfl) (by kernel_rfl) (by kernel_rfl) (fun _ _ _ h => h) (Or.inl ⟨by rfl, ?_⟩) (by assumption) ?_
        rotate_left
        · (intro w hSw; (try dsimp only at hSw); go_simp) <;> with_reducible rfl
        try simp only [Act.put, List.setIfInBounds_toArray, List.set_cons_zero, List.set_cons_succ]
        refine wpAnyH_take (i := 2) (oi := { dst := some 18, op := Op.indexAddr 22 (Operand.tmp 16) (Operand.tmp 17), type := 0, pos := "l09_ledger.go:69", after := #[{ on := 0, ground := Ground.data }, { on := 1, ground := Ground.data }], guard := none }) (v := ?_) rfl (by kernel_rfl) (by kernel_rfl) (by kernel_rfl) (fun _ _ _ h => h) (Or.inl ⟨by rfl, ?_⟩) (by assumption) ?_
        rotate_left
        · (intro w hSw; (try dsimp only at hSw); go_simp) <;> with_reducible rfl
        try simp only [Act.put, List.setIfInBounds_toArray, List.set_cons_zero, List.set_cons_succ]
        refine wpAnyH_take (i := 3) (oi := { dst := some 19, op := Op.load 25 (Operand.tmp 18), type := 25, pos := "l09_ledger.go:69", after := #[{ on := 2, ground := Ground.data }], guard := none }) (v := ?_) rfl (by kernel_rfl) (by kernel_rfl) (by kernel_rfl) (fun _ _ _ h => h) (Or.inl ⟨by rfl, ?_⟩) (by assumption) ?_
        rotate_left
        · (intro w hSw; (try dsimp only at hSw); go_simp) <;> with_reducible rfl
        try simp only [Act.put, List.setIfInBounds_toArray, List.set_cons_zero, List.set_cons_succ]
        refine wpAnyH_ready (rs := [4]) (by kernel_rfl) (by simp) ?_
        refine AllReadyH.cons (o := { dst := some 20, op := Op.call { callee := Callee.value (Operand.func 57), args := #[Operand.tmp 19], argTypes := #[25] }, type := 4, pos := "l09_ledger.go:69", after := #[{ on := 3, ground := Ground.data }], guard := none }) rfl (fun K hK => ?_) AllReadyH.nil
        go_simp
        go_at_call 57
        refine HD.out.mono ?_
        rintro e q1 ⟨rfl, hq1⟩
        try go_wp2_with fail
        have hk1 := QB.below (w := w) (b := b) (o := off + k * 4) (xa := xa) (xm := xm) (xs := xs) (la := la) (ll := ll) (lc := lc) HS0.out hq1
        refine hK.out _ _ hk1 (fun _ => ?_)
        clear hK K
        try simp only [Act.put, List.setIfInBounds_toArray, List.set_cons_zero, List.set_cons_succ]
        refine wpAnyH_take (i := 5) (oi := { dst := some 21, op := Op.unOp UnOp.not 4 (Operand.tmp 20), type := 4, pos := "l09_ledger.go:69", after := #[{ on := 4, ground := Ground.data }], guard := none }) (v := ?_) rfl (by kernel_rfl) (by kernel_rfl) (by kernel_rfl) (fun _ _ _ h => h) (Or.inl ⟨by rfl, ?_⟩) (by assumption) ?_
        rotate_left
        · (intro w hSw; (try dsimp only at hSw); go_simp) <;> with_reducible rfl
        try simp only [Act.put, List.setIfInBounds_toArray, List.set_cons_zero, List.set_cons_succ]
        refine wpAnyH_take (i := 6) (oi := { dst := some 22, op := Op.move (Operand.tmp 21), type := 4, pos := "l09_ledger.go:69", after := #[{ on := 5, ground := Ground.data }, { on := 4, ground := Ground.chain }], guard := none }) (v := ?_) rfl (by kernel_rfl) (by kernel_rfl) (by kernel_rfl) (fun _ _ _ h => h) (Or.inl ⟨by rfl, ?_⟩) (by assumption) ?_
        rotate_left
        · (intro w hSw; (try dsimp only at hSw); go_simp) <;> with_reducible rfl
        try simp only [Act.put, List.setIfInBounds_toArray, List.set_cons_zero, List.set_cons_succ]
        refine wpAnyH_take (i := 7) (oi := { dst := some 23, op := Op.move (Operand.tmp 0), type := 22, pos := "l09_ledger.go:69", after := #[{ on := 6, ground := Ground.guard }], guard := some (6, false) }) (v := undef) rfl (by kernel_rfl) (by kernel_rfl) (by kernel_rfl) (fun _ _ _ h => h) (Or.inr ⟨by rfl, rfl⟩) (by assumption) ?_
        try simp only [Act.put, List.setIfInBounds_toArray, List.set_cons_zero, List.set_cons_succ]
        refine wpAnyH_take (i := 8) (oi := { dst := some 24, op := Op.move (Operand.tmp 3), type := 3, pos := "l09_ledger.go:69", after := #[{ on := 6, ground := Ground.guard }], guard := some (6, false) }) (v := undef) rfl (by kernel_rfl) (by kernel_rfl) (by kernel_rfl) (fun _ _ _ h => h) (Or.inr ⟨by rfl, rfl⟩) (by assumption) ?_
        try simp only [Act.put, List.setIfInBounds_toArray, List.set_cons_zero, List.set_cons_succ]
        refine wpAnyH_take (i := 9) (oi := { dst := some 25, op := Op.indexAddr 22 (Operand.tmp 23) (Operand.tmp 24), type := 0, pos := "l09_ledger.go:69", after := #[{ on := 7, ground := Ground.data }, { on := 8, ground := Ground.data }, { on := 6, ground := Ground.guard }], guard := some (6, false) }) (v := undef) rfl (by kernel_rfl) (by kernel_rfl) (by kernel_rfl) (fun _ _ _ h => h) (Or.inr ⟨by rfl, rfl⟩) (by assumption) ?_
        try simp only [Act.put, List.setIfInBounds_toArray, List.set_cons_zero, List.set_cons_succ]
        refine wpAnyH_take (i := 10) (oi := { dst := some 26, op := Op.fieldAddr 25 (Operand.tmp 25) 2, type := 0, pos := "l09_ledger.go:69", after := #[{ on := 9, ground := Ground.data }, { on := 6, ground := Ground.guard }], guard := some (6, false) }) (v := undef) rfl (by kernel_rfl) (by kernel_rfl) (by kernel_rfl) (fun _ _ _ h => h) (Or.inr ⟨by rfl, rfl⟩) (by assumption) ?_
        try simp only [Act.put, List.setIfInBounds_toArray, List.set_cons_zero, List.set_cons_succ]
        refine wpAnyH_take (i := 11) (oi := { dst := some 27, op := Op.load 2 (Operand.tmp 26), type := 2, pos := "l09_ledger.go:69", after := #[{ on := 10, ground := Ground.data }, { on := 6, ground := Ground.guard }], guard := some (6, false) }) (v := undef) rfl (by kernel_rfl) (by kernel_rfl) (by kernel_rfl) (fun _ _ _ h => h) (Or.inr ⟨by rfl, rfl⟩) (by assumption) ?_
        try simp only [Act.put, List.setIfInBounds_toArray, List.set_cons_zero, List.set_cons_succ]
        refine wpAnyH_take (i := 12) (oi := { dst := some 28, op := Op.move (Operand.tmp 0), type := 22, pos := "l09_ledger.go:69", after := #[{ on := 6, ground := Ground.guard }], guard := some (6, false) }) (v := undef) rfl (by kernel_rfl) (by kernel_rfl) (by kernel_rfl) (fun _ _ _ h => h) (Or.inr ⟨by rfl, rfl⟩) (by assumption) ?_
        try simp only [Act.put, List.setIfInBounds_toArray, List.set_cons_zero, List.set_cons_succ]
        refine wpAnyH_take (i := 13) (oi := { dst := some 29, op := Op.move (Operand.tmp 3), type := 3, pos := "l09_ledger.go:69", after := #[{ on := 6, ground := Ground.guard }], guard := some (6, false) }) (v := undef) rfl (by kernel_rfl) (by kernel_rfl) (by kernel_rfl) (fun _ _ _ h => h) (Or.inr ⟨by rfl, rfl⟩) (by assumption) ?_
        try simp only [Act.put, List.setIfInBounds_toArray, List.set_cons_zero, List.set_cons_succ]
        refine wpAnyH_take (i := 14) (oi := { dst := some 30, op := Op.move (Operand.tmp 0), type := 22, pos := "l09_ledger.go:69", after := #[{ on := 6, ground := Ground.guard }], guard := some (6, false) }) (v := undef) rfl (by kernel_rfl) (by kernel_rfl) (by kernel_rfl) (fun _ _ _ h => h) (Or.inr ⟨by rfl, rfl⟩) (by assumption) ?_
        try simp only [Act.put, List.setIfInBounds_toArray, List.set_cons_zero, List.set_cons_succ]
        refine wpAnyH_take (i := 15) (oi := { dst := some 31, op := Op.move (Operand.tmp 3), type := 3, pos := "l09_ledger.go:69", after := #[{ on := 6, ground := Ground.guard }], guard := some (6, false) }) (v := undef) rfl (by kernel_rfl) (by kernel_rfl) (by kernel_rfl) (fun _ _ _ h => h) (Or.inr ⟨by rfl, rfl⟩) (by assumption) ?_
        try simp only [Act.put, List.setIfInBounds_toArray, List.set_cons_zero, List.set_cons_succ]
        refine wpAnyH_take (i := 16) (oi := { dst := some 32, op := Op.indexAddr 22 (Operand.tmp 30) (Operand.tmp 31), type := 0, pos := "l09_ledger.go:69", after := #[{ on := 14, ground := Ground.data }, { on := 15, ground := Ground.data }, { on := 6, ground := Ground.guard }], guard := some (6, false) }) (v := undef) rfl (by kernel_rfl) (by kernel_rfl) (by kernel_rfl) (fun _ _ _ h => h) (Or.inr ⟨by rfl, rfl⟩) (by assumption) ?_
        try simp only [Act.put, List.setIfInBounds_toArray, List.set_cons_zero, List.set_cons_succ]
        refine wpAnyH_take (i := 17) (oi := { dst := some 33, op := Op.fieldAddr 25 (Operand.tmp 32) 0, type := 0, pos := "l09_ledger.go:69", after := #[{ on := 16, ground := Ground.data }, { on := 6, ground := Ground.guard }], guard := some (6, false) }) (v := undef) rfl (by kernel_rfl) (by kernel_rfl) (by kernel_rfl) (fun _ _ _ h => h) (Or.inr ⟨by rfl, rfl⟩) (by assumption) ?_
        try simp only [Act.put, List.setIfInBounds_toArray, List.set_cons_zero, List.set_cons_succ]
        refine wpAnyH_take (i := 18) (oi := { dst := some 34, op := Op.load 9 (Operand.tmp 33), type := 9, pos := "l09_ledger.go:69", after := #[{ on := 17, ground := Ground.data }, { on := 6, ground := Ground.guard }], guard := some (6, false) }) (v := undef) rfl (by kernel_rfl) (by kernel_rfl) (by kernel_rfl) (fun _ _ _ h => h) (Or.inr ⟨by rfl, rfl⟩) (by assumption) ?_
        try simp only [Act.put, List.setIfInBounds_toArray, List.set_cons_zero, List.set_cons_succ]
        refine wpAnyH_take (i := 19) (oi := { dst := some 35, op := Op.move (Operand.tmp 0), type := 22, pos := "l09_ledger.go:69", after := #[{ on := 6, ground := Ground.guard }], guard := some (6, false) }) (v := undef) rfl (by kernel_rfl) (by kernel_rfl) (by kernel_rfl) (fun _ _ _ h => h) (Or.inr ⟨by rfl, rfl⟩) (by assumption) ?_
        try simp only [Act.put, List.setIfInBounds_toArray, List.set_cons_zero, List.set_cons_succ]
        refine wpAnyH_take (i := 20) (oi := { dst := some 36, op := Op.move (Operand.tmp 3), type := 3, pos := "l09_ledger.go:69", after := #[{ on := 6, ground := Ground.guard }], guard := some (6, false) }) (v := undef) rfl (by kernel_rfl) (by kernel_rfl) (by kernel_rfl) (fun _ _ _ h => h) (Or.inr ⟨by rfl, rfl⟩) (by assumption) ?_
        try simp only [Act.put, List.setIfInBounds_toArray, List.set_cons_zero, List.set_cons_succ]
        refine wpAnyH_take (i := 21) (oi := { dst := some 37, op := Op.indexAddr 22 (Operand.tmp 35) (Operand.tmp 36), type := 0, pos := "l09_ledger.go:69", after := #[{ on := 19, ground := Ground.data }, { on := 20, ground := Ground.data }, { on := 6, ground := Ground.guard }], guard := some (6, false) }) (v := undef) rfl (by kernel_rfl) (by kernel_rfl) (by kernel_rfl) (fun _ _ _ h => h) (Or.inr ⟨by rfl, rfl⟩) (by assumption) ?_
        try simp only [Act.put, List.setIfInBounds_toArray, List.set_cons_zero, List.set_cons_succ]
        refine wpAnyH_take (i := 22) (oi := { dst := some 38, op := Op.fieldAddr 25 (Operand.tmp 37) 1, type := 0, pos := "l09_ledger.go:69", after := #[{ on := 21, ground := Ground.data }, { on := 6, ground := Ground.guard }], guard := some (6, false) }) (v := undef) rfl (by kernel_rfl) (by kernel_rfl) (by kernel_rfl) (fun _ _ _ h => h) (Or.inr ⟨by rfl, rfl⟩) (by assumption) ?_
        try simp only [Act.put, List.setIfInBounds_toArray, List.set_cons_zero, List.set_cons_succ]
        refine wpAnyH_take (i := 23) (oi := { dst := some 39, op := Op.load 2 (Operand.tmp 38), type := 2, pos := "l09_ledger.go:69", after := #[{ on := 22, ground := Ground.data }, { on := 6, ground := Ground.guard }], guard := some (6, false) }) (v := undef) rfl (by kernel_rfl) (by kernel_rfl) (by kernel_rfl) (fun _ _ _ h => h) (Or.inr ⟨by rfl, rfl⟩) (by assumption) ?_
        try simp only [Act.put, List.setIfInBounds_toArray, List.set_cons_zero, List.set_cons_succ]
        refine wpAnyH_take (i := 24) (oi := { dst := some 40, op := Op.call { callee := Callee.value (Operand.func 58), args := #[Operand.tmp 28, Operand.tmp 29, Operand.tmp 34, Operand.tmp 39], argTypes := #[22, 3, 9, 2] }, type := 2, pos := "l09_ledger.go:69", after := #[{ on := 12, ground := Ground.data }, { on := 13, ground := Ground.data }, { on := 18, ground := Ground.data }, { on := 23, ground := Ground.data }, { on := 6, ground := Ground.chain }, { on := 6, ground := Ground.guard }], guard := some (6, false) }) (v := undef) rfl (by kernel_rfl) (by kernel_rfl) (by kernel_rfl) (fun _ _ _ h => h) (Or.inr ⟨by rfl, rfl⟩) (by assumption) ?_
        try simp only [Act.put, List.setIfInBounds_toArray, List.set_cons_zero, List.set_cons_succ]
        refine wpAnyH_take (i := 25) (oi := { dst := some 41, op := Op.binOp BinOp.neq 2 (Operand.tmp 27) (Operand.tmp 40) 2, type := 4, pos := "l09_ledger.go:69", after := #[{ on := 11, ground := Ground.data }, { on := 24, ground := Ground.data }, { on := 6, ground := Ground.guard }], guard := some (6, false) }) (v := undef) rfl (by kernel_rfl) (by kernel_rfl) (by kernel_rfl) (fun _ _ _ h => h) (Or.inr ⟨by rfl, rfl⟩) (by assumption) ?_
        try simp only [Act.put, List.setIfInBounds_toArray, List.set_cons_zero, List.set_cons_succ]
        refine wpAnyH_take (i := 26) (oi := { dst := some 42, op := Op.pick (Operand.tmp 22) (Operand.const (Value.bool true)) (Operand.tmp 41), type := 4, pos := "l09_ledger.go:69", after := #[{ on := 6, ground := Ground.data }, { on := 25, ground := Ground.data }], guard := none }) (v := ?_) rfl (by kernel_rfl) (by kernel_rfl) (by kernel_rfl) (fun _ _ _ h => h) (Or.inl ⟨by rfl, ?_⟩) (by assumption) ?_
        rotate_left
        · (intro w hSw; (try dsimp only at hSw); go_simp) <;> with_reducible rfl
        try simp only [Act.put, List.setIfInBounds_toArray, List.set_cons_zero, List.set_cons_succ]
        refine wpAnyH_done (by kernel_rfl) ?_ _
        have HBQ := hid_intro hk1.1
        clear hk1
        go_wp2_with fail
        go_ret
        exact ⟨by rw [HE.out]; rfl, HBQ.out⟩
      by_cases hsq : xs = cc
      · have HE := hid_intro (HSO.out rfl hsq)
        have hq : (xs != cc) = false := by simpa using hsq
        clear hsq HDN HSO
        go_wp2_with fail
        refine wp_region_held_drew (S := (fun W => Below w.heap.size w W ∧ b < W.heap.size ∧ W.cell? ⟨b, off + k * 4, none⟩ = some (.string xa) ∧ W.cell? ⟨b, off + k * 4 + 1, none⟩ = some (.int .i64 xm) ∧ W.cell? ⟨b, off + k * 4 + 2, none⟩ = some (.int .i64 xs) ∧ W.cell? ⟨b, off + k * 4 + 3, none⟩ = some (.slice la ll lc))) (by kernel_rfl) HS0.out (fun hHeld => ?_)
        refine wpAnyH_take (i := 0) (oi := { dst := some 16, op := Op.move (Operand.tmp 0), type := 22, pos := "l09_ledger.go:69", after := #[], guard := none }) (v := ?_) rfl (by kernel_rfl) (by kernel_rfl) (by kernel_rfl) (fun _ _ _ h => h) (Or.inl ⟨by rfl, ?_⟩) (by assumption) ?_
        rotate_left
        · (intro w hSw; (try dsimp only at hSw); go_simp) <;> with_reducible rfl
        try simp only [Act.put, List.setIfInBounds_toArray, List.set_cons_zero, List.set_cons_succ]
        refine wpAnyH_take (i := 1) (oi := { dst := some 17, op := Op.move (Operand.tmp 3), type := 3, pos := "l09_ledger.go:69", after := #[], guard := none }) (v := ?_) rfl (by kernel_rfl) (by kernel_rfl) (by kernel_rfl) (fun _ _ _ h => h) (Or.inl ⟨by rfl, ?_⟩) (by assumption) ?_
        rotate_left
        · (intro w hSw; (try dsimp only at hSw); go_simp) <;> with_reducible rfl
        try simp only [Act.put, List.setIfInBounds_toArray, List.set_cons_zero, List.set_cons_succ]
        refine wpAnyH_take (i := 2) (oi := { dst := some 18, op := Op.indexAddr 22 (Operand.tmp 16) (Operand.tmp 17), type := 0, pos := "l09_ledger.go:69", after := #[{ on := 0, ground := Ground.data }, { on := 1, ground := Ground.data }], guard := none }) (v := ?_) rfl (by kernel_rfl) (by kernel_rfl) (by kernel_rfl) (fun _ _ _ h => h) (Or.inl ⟨by rfl, ?_⟩) (by assumption) ?_
        rotate_left
        · (intro w hSw; (try dsimp only at hSw); go_simp) <;> with_reducible rfl
        try simp only [Act.put, List.setIfInBounds_toArray, List.set_cons_zero, List.set_cons_succ]
        refine wpAnyH_take (i := 3) (oi := { dst := some 19, op := Op.load 25 (Operand.tmp 18), type := 25, pos := "l09_ledger.go:69", after := #[{ on := 2, ground := Ground.data }], guard := none }) (v := ?_) rfl (by kernel_rfl) (by kernel_rfl) (by kernel_rfl) (fun _ _ _ h => h) (Or.inl ⟨by rfl, ?_⟩) (by assumption) ?_
        rotate_left
        · (intro w hSw; (try dsimp only at hSw); go_simp) <;> with_reducible rfl
        try simp only [Act.put, List.setIfInBounds_toArray, List.set_cons_zero, List.set_cons_succ]
        refine wpAnyH_ready (rs := [4]) (by kernel_rfl) (by simp) ?_
        refine AllReadyH.cons (o := { dst := some 20, op := Op.call { callee := Callee.value (Operand.func 57), args := #[Operand.tmp 19], argTypes := #[25] }, type := 4, pos := "l09_ledger.go:69", after := #[{ on := 3, ground := Ground.data }], guard := none }) rfl (fun K hK => ?_) AllReadyH.nil
        go_simp
        go_at_call 57
        refine HD.out.mono ?_
        rintro e q1 ⟨rfl, hq1⟩
        try go_wp2_with fail
        have hk1 := QB.below (w := w) (b := b) (o := off + k * 4) (xa := xa) (xm := xm) (xs := xs) (la := la) (ll := ll) (lc := lc) HS0.out hq1
        refine hK.out _ _ hk1 (fun _ => ?_)
        clear hK K
        try simp only [Act.put, List.setIfInBounds_toArray, List.set_cons_zero, List.set_cons_succ]
        refine wpAnyH_take (i := 5) (oi := { dst := some 21, op := Op.unOp UnOp.not 4 (Operand.tmp 20), type := 4, pos := "l09_ledger.go:69", after := #[{ on := 4, ground := Ground.data }], guard := none }) (v := ?_) rfl (by kernel_rfl) (by kernel_rfl) (by kernel_rfl) (fun _ _ _ h => h) (Or.inl ⟨by rfl, ?_⟩) (by assumption) ?_
        rotate_left
        · (intro w hSw; (try dsimp only at hSw); go_simp) <;> with_reducible rfl
        try simp only [Act.put, List.setIfInBounds_toArray, List.set_cons_zero, List.set_cons_succ]
        refine wpAnyH_take (i := 6) (oi := { dst := some 22, op := Op.move (Operand.tmp 21), type := 4, pos := "l09_ledger.go:69", after := #[{ on := 5, ground := Ground.data }, { on := 4, ground := Ground.chain }], guard := none }) (v := ?_) rfl (by kernel_rfl) (by kernel_rfl) (by kernel_rfl) (fun _ _ _ h => h) (Or.inl ⟨by rfl, ?_⟩) (by assumption) ?_
        rotate_left
        · (intro w hSw; (try dsimp only at hSw); go_simp) <;> with_reducible rfl
        try simp only [Act.put, List.setIfInBounds_toArray, List.set_cons_zero, List.set_cons_succ]
        refine wpAnyH_take (i := 7) (oi := { dst := some 23, op := Op.move (Operand.tmp 0), type := 22, pos := "l09_ledger.go:69", after := #[{ on := 6, ground := Ground.guard }], guard := some (6, false) }) (v := ?_) rfl (by kernel_rfl) (by kernel_rfl) (by kernel_rfl) (fun _ _ _ h => h) (Or.inl ⟨by rfl, ?_⟩) (by assumption) ?_
        rotate_left
        · (intro w hSw; (try dsimp only at hSw); go_simp) <;> with_reducible rfl
        try simp only [Act.put, List.setIfInBounds_toArray, List.set_cons_zero, List.set_cons_succ]
        refine wpAnyH_take (i := 8) (oi := { dst := some 24, op := Op.move (Operand.tmp 3), type := 3, pos := "l09_ledger.go:69", after := #[{ on := 6, ground := Ground.guard }], guard := some (6, false) }) (v := ?_) rfl (by kernel_rfl) (by kernel_rfl) (by kernel_rfl) (fun _ _ _ h => h) (Or.inl ⟨by rfl, ?_⟩) (by assumption) ?_
        rotate_left
        · (intro w hSw; (try dsimp only at hSw); go_simp) <;> with_reducible rfl
        try simp only [Act.put, List.setIfInBounds_toArray, List.set_cons_zero, List.set_cons_succ]
        refine wpAnyH_take (i := 9) (oi := { dst := some 25, op := Op.indexAddr 22 (Operand.tmp 23) (Operand.tmp 24), type := 0, pos := "l09_ledger.go:69", after := #[{ on := 7, ground := Ground.data }, { on := 8, ground := Ground.data }, { on := 6, ground := Ground.guard }], guard := some (6, false) }) (v := ?_) rfl (by kernel_rfl) (by kernel_rfl) (by kernel_rfl) (fun _ _ _ h => h) (Or.inl ⟨by rfl, ?_⟩) (by assumption) ?_
        rotate_left
        · (intro w hSw; (try dsimp only at hSw); go_simp) <;> with_reducible rfl
        try simp only [Act.put, List.setIfInBounds_toArray, List.set_cons_zero, List.set_cons_succ]
        refine wpAnyH_take (i := 10) (oi := { dst := some 26, op := Op.fieldAddr 25 (Operand.tmp 25) 2, type := 0, pos := "l09_ledger.go:69", after := #[{ on := 9, ground := Ground.data }, { on := 6, ground := Ground.guard }], guard := some (6, false) }) (v := ?_) rfl (by kernel_rfl) (by kernel_rfl) (by kernel_rfl) (fun _ _ _ h => h) (Or.inl ⟨by rfl, ?_⟩) (by assumption) ?_
        rotate_left
        · (intro w hSw; (try dsimp only at hSw); go_simp) <;> with_reducible rfl
        try simp only [Act.put, List.setIfInBounds_toArray, List.set_cons_zero, List.set_cons_succ]
        refine wpAnyH_take (i := 11) (oi := { dst := some 27, op := Op.load 2 (Operand.tmp 26), type := 2, pos := "l09_ledger.go:69", after := #[{ on := 10, ground := Ground.data }, { on := 6, ground := Ground.guard }], guard := some (6, false) }) (v := ?_) rfl (by kernel_rfl) (by kernel_rfl) (by kernel_rfl) (fun _ _ _ h => h) (Or.inl ⟨by rfl, ?_⟩) (by assumption) ?_
        rotate_left
        · (intro w hSw; (try dsimp only at hSw); go_simp) <;> with_reducible rfl
        try simp only [Act.put, List.setIfInBounds_toArray, List.set_cons_zero, List.set_cons_succ]
        refine wpAnyH_take (i := 12) (oi := { dst := some 28, op := Op.move (Operand.tmp 0), type := 22, pos := "l09_ledger.go:69", after := #[{ on := 6, ground := Ground.guard }], guard := some (6, false) }) (v := ?_) rfl (by kernel_rfl) (by kernel_rfl) (by kernel_rfl) (fun _ _ _ h => h) (Or.inl ⟨by rfl, ?_⟩) (by assumption) ?_
        rotate_left
        · (intro w hSw; (try dsimp only at hSw); go_simp) <;> with_reducible rfl
        try simp only [Act.put, List.setIfInBounds_toArray, List.set_cons_zero, List.set_cons_succ]
        refine wpAnyH_take (i := 13) (oi := { dst := some 29, op := Op.move (Operand.tmp 3), type := 3, pos := "l09_ledger.go:69", after := #[{ on := 6, ground := Ground.guard }], guard := some (6, false) }) (v := ?_) rfl (by kernel_rfl) (by kernel_rfl) (by kernel_rfl) (fun _ _ _ h => h) (Or.inl ⟨by rfl, ?_⟩) (by assumption) ?_
        rotate_left
        · (intro w hSw; (try dsimp only at hSw); go_simp) <;> with_reducible rfl
        try simp only [Act.put, List.setIfInBounds_toArray, List.set_cons_zero, List.set_cons_succ]
        refine wpAnyH_take (i := 14) (oi := { dst := some 30, op := Op.move (Operand.tmp 0), type := 22, pos := "l09_ledger.go:69", after := #[{ on := 6, ground := Ground.guard }], guard := some (6, false) }) (v := ?_) rfl (by kernel_rfl) (by kernel_rfl) (by kernel_rfl) (fun _ _ _ h => h) (Or.inl ⟨by rfl, ?_⟩) (by assumption) ?_
        rotate_left
        · (intro w hSw; (try dsimp only at hSw); go_simp) <;> with_reducible rfl
        try simp only [Act.put, List.setIfInBounds_toArray, List.set_cons_zero, List.set_cons_succ]
        refine wpAnyH_take (i := 15) (oi := { dst := some 31, op := Op.move (Operand.tmp 3), type := 3, pos := "l09_ledger.go:69", after := #[{ on := 6, ground := Ground.guard }], guard := some (6, false) }) (v := ?_) rfl (by kernel_rfl) (by kernel_rfl) (by kernel_rfl) (fun _ _ _ h => h) (Or.inl ⟨by rfl, ?_⟩) (by assumption) ?_
        rotate_left
        · (intro w hSw; (try dsimp only at hSw); go_simp) <;> with_reducible rfl
        try simp only [Act.put, List.setIfInBounds_toArray, List.set_cons_zero, List.set_cons_succ]
        refine wpAnyH_take (i := 16) (oi := { dst := some 32, op := Op.indexAddr 22 (Operand.tmp 30) (Operand.tmp 31), type := 0, pos := "l09_ledger.go:69", after := #[{ on := 14, ground := Ground.data }, { on := 15, ground := Ground.data }, { on := 6, ground := Ground.guard }], guard := some (6, false) }) (v := ?_) rfl (by kernel_rfl) (by kernel_rfl) (by kernel_rfl) (fun _ _ _ h => h) (Or.inl ⟨by rfl, ?_⟩) (by assumption) ?_
        rotate_left
        · (intro w hSw; (try dsimp only at hSw); go_simp) <;> with_reducible rfl
        try simp only [Act.put, List.setIfInBounds_toArray, List.set_cons_zero, List.set_cons_succ]
        refine wpAnyH_take (i := 17) (oi := { dst := some 33, op := Op.fieldAddr 25 (Operand.tmp 32) 0, type := 0, pos := "l09_ledger.go:69", after := #[{ on := 16, ground := Ground.data }, { on := 6, ground := Ground.guard }], guard := some (6, false) }) (v := ?_) rfl (by kernel_rfl) (by kernel_rfl) (by kernel_rfl) (fun _ _ _ h => h) (Or.inl ⟨by rfl, ?_⟩) (by assumption) ?_
        rotate_left
        · (intro w hSw; (try dsimp only at hSw); go_simp) <;> with_reducible rfl
        try simp only [Act.put, List.setIfInBounds_toArray, List.set_cons_zero, List.set_cons_succ]
        refine wpAnyH_take (i := 18) (oi := { dst := some 34, op := Op.load 9 (Operand.tmp 33), type := 9, pos := "l09_ledger.go:69", after := #[{ on := 17, ground := Ground.data }, { on := 6, ground := Ground.guard }], guard := some (6, false) }) (v := ?_) rfl (by kernel_rfl) (by kernel_rfl) (by kernel_rfl) (fun _ _ _ h => h) (Or.inl ⟨by rfl, ?_⟩) (by assumption) ?_
        rotate_left
        · (intro w hSw; (try dsimp only at hSw); go_simp) <;> with_reducible rfl
        try simp only [Act.put, List.setIfInBounds_toArray, List.set_cons_zero, List.set_cons_succ]
        refine wpAnyH_take (i := 19) (oi := { dst := some 35, op := Op.move (Operand.tmp 0), type := 22, pos := "l09_ledger.go:69", after := #[{ on := 6, ground := Ground.guard }], guard := some (6, false) }) (v := ?_) rfl (by kernel_rfl) (by kernel_rfl) (by kernel_rfl) (fun _ _ _ h => h) (Or.inl ⟨by rfl, ?_⟩) (by assumption) ?_
        rotate_left
        · (intro w hSw; (try dsimp only at hSw); go_simp) <;> with_reducible rfl
        try simp only [Act.put, List.setIfInBounds_toArray, List.set_cons_zero, List.set_cons_succ]
        refine wpAnyH_take (i := 20) (oi := { dst := some 36, op := Op.move (Operand.tmp 3), type := 3, pos := "l09_ledger.go:69", after := #[{ on := 6, ground := Ground.guard }], guard := some (6, false) }) (v := ?_) rfl (by kernel_rfl) (by kernel_rfl) (by kernel_rfl) (fun _ _ _ h => h) (Or.inl ⟨by rfl, ?_⟩) (by assumption) ?_
        rotate_left
        · (intro w hSw; (try dsimp only at hSw); go_simp) <;> with_reducible rfl
        try simp only [Act.put, List.setIfInBounds_toArray, List.set_cons_zero, List.set_cons_succ]
        refine wpAnyH_take (i := 21) (oi := { dst := some 37, op := Op.indexAddr 22 (Operand.tmp 35) (Operand.tmp 36), type := 0, pos := "l09_ledger.go:69", after := #[{ on := 19, ground := Ground.data }, { on := 20, ground := Ground.data }, { on := 6, ground := Ground.guard }], guard := some (6, false) }) (v := ?_) rfl (by kernel_rfl) (by kernel_rfl) (by kernel_rfl) (fun _ _ _ h => h) (Or.inl ⟨by rfl, ?_⟩) (by assumption) ?_
        rotate_left
        · (intro w hSw; (try dsimp only at hSw); go_simp) <;> with_reducible rfl
        try simp only [Act.put, List.setIfInBounds_toArray, List.set_cons_zero, List.set_cons_succ]
        refine wpAnyH_take (i := 22) (oi := { dst := some 38, op := Op.fieldAddr 25 (Operand.tmp 37) 1, type := 0, pos := "l09_ledger.go:69", after := #[{ on := 21, ground := Ground.data }, { on := 6, ground := Ground.guard }], guard := some (6, false) }) (v := ?_) rfl (by kernel_rfl) (by kernel_rfl) (by kernel_rfl) (fun _ _ _ h => h) (Or.inl ⟨by rfl, ?_⟩) (by assumption) ?_
        rotate_left
        · (intro w hSw; (try dsimp only at hSw); go_simp) <;> with_reducible rfl
        try simp only [Act.put, List.setIfInBounds_toArray, List.set_cons_zero, List.set_cons_succ]
        refine wpAnyH_take (i := 23) (oi := { dst := some 39, op := Op.load 2 (Operand.tmp 38), type := 2, pos := "l09_ledger.go:69", after := #[{ on := 22, ground := Ground.data }, { on := 6, ground := Ground.guard }], guard := some (6, false) }) (v := ?_) rfl (by kernel_rfl) (by kernel_rfl) (by kernel_rfl) (fun _ _ _ h => h) (Or.inl ⟨by rfl, ?_⟩) (by assumption) ?_
        rotate_left
        · (intro w hSw; (try dsimp only at hSw); go_simp) <;> with_reducible rfl
        try simp only [Act.put, List.setIfInBounds_toArray, List.set_cons_zero, List.set_cons_succ]
        refine wpAnyH_ready (rs := [24]) (by kernel_rfl) (by simp) ?_
        refine AllReadyH.cons (o := { dst := some 40, op := Op.call { callee := Callee.value (Operand.func 58), args := #[Operand.tmp 28, Operand.tmp 29, Operand.tmp 34, Operand.tmp 39], argTypes := #[22, 3, 9, 2] }, type := 2, pos := "l09_ledger.go:69", after := #[{ on := 12, ground := Ground.data }, { on := 13, ground := Ground.data }, { on := 18, ground := Ground.data }, { on := 23, ground := Ground.data }, { on := 6, ground := Ground.chain }, { on := 6, ground := Ground.guard }], guard := some (6, false) }) rfl (fun K hK => ?_) AllReadyH.nil
        go_simp
        go_at_call 58
        refine (HC.out _ hk1.1).mono ?_
        rintro e q2 ⟨rfl, hq2⟩
        try go_wp2_with fail
        have hk2 := QB.below (w := w) (b := b) (o := off + k * 4) (xa := xa) (xm := xm) (xs := xs) (la := la) (ll := ll) (lc := lc) hk1 hq2
        refine hK.out _ _ hk2 (fun _ => ?_)
        clear hK K
        try simp only [Act.put, List.setIfInBounds_toArray, List.set_cons_zero, List.set_cons_succ]
        refine wpAnyH_take (i := 25) (oi := { dst := some 41, op := Op.binOp BinOp.neq 2 (Operand.tmp 27) (Operand.tmp 40) 2, type := 4, pos := "l09_ledger.go:69", after := #[{ on := 11, ground := Ground.data }, { on := 24, ground := Ground.data }, { on := 6, ground := Ground.guard }], guard := some (6, false) }) (v := ?_) rfl (by kernel_rfl) (by kernel_rfl) (by kernel_rfl) (fun _ _ _ h => h) (Or.inl ⟨by rfl, ?_⟩) (by assumption) ?_
        rotate_left
        · (intro w hSw; (try dsimp only at hSw); go_simp) <;> with_reducible rfl
        try simp only [Act.put, List.setIfInBounds_toArray, List.set_cons_zero, List.set_cons_succ]
        refine wpAnyH_take (i := 26) (oi := { dst := some 42, op := Op.pick (Operand.tmp 22) (Operand.const (Value.bool true)) (Operand.tmp 41), type := 4, pos := "l09_ledger.go:69", after := #[{ on := 6, ground := Ground.data }, { on := 25, ground := Ground.data }], guard := none }) (v := ?_) rfl (by kernel_rfl) (by kernel_rfl) (by kernel_rfl) (fun _ _ _ h => h) (Or.inl ⟨by rfl, ?_⟩) (by assumption) ?_
        rotate_left
        · (intro w hSw; (try dsimp only at hSw); go_simp) <;> with_reducible rfl
        try simp only [Act.put, List.setIfInBounds_toArray, List.set_cons_zero, List.set_cons_succ]
        refine wpAnyH_done (by kernel_rfl) ?_ _
        have HBQ := hid_intro hk2.1
        clear hk1 hk2
        go_wp2_with fail
        go_roundw
        case rel => exact ⟨k + 1, by omega, by go_num, HE, HBQ⟩
        case measure => simp [intOf]; omega
      · have HE := hid_intro (HDN.out (.inr hsq))
        have hq : (xs != cc) = true := by simpa using hsq
        clear hsq HDN HSO
        go_wp2_with fail
        refine wp_region_held_drew (S := (fun W => Below w.heap.size w W ∧ b < W.heap.size ∧ W.cell? ⟨b, off + k * 4, none⟩ = some (.string xa) ∧ W.cell? ⟨b, off + k * 4 + 1, none⟩ = some (.int .i64 xm) ∧ W.cell? ⟨b, off + k * 4 + 2, none⟩ = some (.int .i64 xs) ∧ W.cell? ⟨b, off + k * 4 + 3, none⟩ = some (.slice la ll lc))) (by kernel_rfl) HS0.out (fun hHeld => ?_)
        refine wpAnyH_take (i := 0) (oi := { dst := some 16, op := Op.move (Operand.tmp 0), type := 22, pos := "l09_ledger.go:69", after := #[], guard := none }) (v := ?_) rfl (by kernel_rfl) (by kernel_rfl) (by kernel_rfl) (fun _ _ _ h => h) (Or.inl ⟨by rfl, ?_⟩) (by assumption) ?_
        rotate_left
        · (intro w hSw; (try dsimp only at hSw); go_simp) <;> with_reducible rfl
        try simp only [Act.put, List.setIfInBounds_toArray, List.set_cons_zero, List.set_cons_succ]
        refine wpAnyH_take (i := 1) (oi := { dst := some 17, op := Op.move (Operand.tmp 3), type := 3, pos := "l09_ledger.go:69", after := #[], guard := none }) (v := ?_) rfl (by kernel_rfl) (by kernel_rfl) (by kernel_rfl) (fun _ _ _ h => h) (Or.inl ⟨by rfl, ?_⟩) (by assumption) ?_
        rotate_left
        · (intro w hSw; (try dsimp only at hSw); go_simp) <;> with_reducible rfl
        try simp only [Act.put, List.setIfInBounds_toArray, List.set_cons_zero, List.set_cons_succ]
        refine wpAnyH_take (i := 2) (oi := { dst := some 18, op := Op.indexAddr 22 (Operand.tmp 16) (Operand.tmp 17), type := 0, pos := "l09_ledger.go:69", after := #[{ on := 0, ground := Ground.data }, { on := 1, ground := Ground.data }], guard := none }) (v := ?_) rfl (by kernel_rfl) (by kernel_rfl) (by kernel_rfl) (fun _ _ _ h => h) (Or.inl ⟨by rfl, ?_⟩) (by assumption) ?_
        rotate_left
        · (intro w hSw; (try dsimp only at hSw); go_simp) <;> with_reducible rfl
        try simp only [Act.put, List.setIfInBounds_toArray, List.set_cons_zero, List.set_cons_succ]
        refine wpAnyH_take (i := 3) (oi := { dst := some 19, op := Op.load 25 (Operand.tmp 18), type := 25, pos := "l09_ledger.go:69", after := #[{ on := 2, ground := Ground.data }], guard := none }) (v := ?_) rfl (by kernel_rfl) (by kernel_rfl) (by kernel_rfl) (fun _ _ _ h => h) (Or.inl ⟨by rfl, ?_⟩) (by assumption) ?_
        rotate_left
        · (intro w hSw; (try dsimp only at hSw); go_simp) <;> with_reducible rfl
        try simp only [Act.put, List.setIfInBounds_toArray, List.set_cons_zero, List.set_cons_succ]
        refine wpAnyH_ready (rs := [4]) (by kernel_rfl) (by simp) ?_
        refine AllReadyH.cons (o := { dst := some 20, op := Op.call { callee := Callee.value (Operand.func 57), args := #[Operand.tmp 19], argTypes := #[25] }, type := 4, pos := "l09_ledger.go:69", after := #[{ on := 3, ground := Ground.data }], guard := none }) rfl (fun K hK => ?_) AllReadyH.nil
        go_simp
        go_at_call 57
        refine HD.out.mono ?_
        rintro e q1 ⟨rfl, hq1⟩
        try go_wp2_with fail
        have hk1 := QB.below (w := w) (b := b) (o := off + k * 4) (xa := xa) (xm := xm) (xs := xs) (la := la) (ll := ll) (lc := lc) HS0.out hq1
        refine hK.out _ _ hk1 (fun _ => ?_)
        clear hK K
        try simp only [Act.put, List.setIfInBounds_toArray, List.set_cons_zero, List.set_cons_succ]
        refine wpAnyH_take (i := 5) (oi := { dst := some 21, op := Op.unOp UnOp.not 4 (Operand.tmp 20), type := 4, pos := "l09_ledger.go:69", after := #[{ on := 4, ground := Ground.data }], guard := none }) (v := ?_) rfl (by kernel_rfl) (by kernel_rfl) (by kernel_rfl) (fun _ _ _ h => h) (Or.inl ⟨by rfl, ?_⟩) (by assumption) ?_
        rotate_left
        · (intro w hSw; (try dsimp only at hSw); go_simp) <;> with_reducible rfl
        try simp only [Act.put, List.setIfInBounds_toArray, List.set_cons_zero, List.set_cons_succ]
        refine wpAnyH_take (i := 6) (oi := { dst := some 22, op := Op.move (Operand.tmp 21), type := 4, pos := "l09_ledger.go:69", after := #[{ on := 5, ground := Ground.data }, { on := 4, ground := Ground.chain }], guard := none }) (v := ?_) rfl (by kernel_rfl) (by kernel_rfl) (by kernel_rfl) (fun _ _ _ h => h) (Or.inl ⟨by rfl, ?_⟩) (by assumption) ?_
        rotate_left
        · (intro w hSw; (try dsimp only at hSw); go_simp) <;> with_reducible rfl
        try simp only [Act.put, List.setIfInBounds_toArray, List.set_cons_zero, List.set_cons_succ]
        refine wpAnyH_take (i := 7) (oi := { dst := some 23, op := Op.move (Operand.tmp 0), type := 22, pos := "l09_ledger.go:69", after := #[{ on := 6, ground := Ground.guard }], guard := some (6, false) }) (v := ?_) rfl (by kernel_rfl) (by kernel_rfl) (by kernel_rfl) (fun _ _ _ h => h) (Or.inl ⟨by rfl, ?_⟩) (by assumption) ?_
        rotate_left
        · (intro w hSw; (try dsimp only at hSw); go_simp) <;> with_reducible rfl
        try simp only [Act.put, List.setIfInBounds_toArray, List.set_cons_zero, List.set_cons_succ]
        refine wpAnyH_take (i := 8) (oi := { dst := some 24, op := Op.move (Operand.tmp 3), type := 3, pos := "l09_ledger.go:69", after := #[{ on := 6, ground := Ground.guard }], guard := some (6, false) }) (v := ?_) rfl (by kernel_rfl) (by kernel_rfl) (by kernel_rfl) (fun _ _ _ h => h) (Or.inl ⟨by rfl, ?_⟩) (by assumption) ?_
        rotate_left
        · (intro w hSw; (try dsimp only at hSw); go_simp) <;> with_reducible rfl
        try simp only [Act.put, List.setIfInBounds_toArray, List.set_cons_zero, List.set_cons_succ]
        refine wpAnyH_take (i := 9) (oi := { dst := some 25, op := Op.indexAddr 22 (Operand.tmp 23) (Operand.tmp 24), type := 0, pos := "l09_ledger.go:69", after := #[{ on := 7, ground := Ground.data }, { on := 8, ground := Ground.data }, { on := 6, ground := Ground.guard }], guard := some (6, false) }) (v := ?_) rfl (by kernel_rfl) (by kernel_rfl) (by kernel_rfl) (fun _ _ _ h => h) (Or.inl ⟨by rfl, ?_⟩) (by assumption) ?_
        rotate_left
        · (intro w hSw; (try dsimp only at hSw); go_simp) <;> with_reducible rfl
        try simp only [Act.put, List.setIfInBounds_toArray, List.set_cons_zero, List.set_cons_succ]
        refine wpAnyH_take (i := 10) (oi := { dst := some 26, op := Op.fieldAddr 25 (Operand.tmp 25) 2, type := 0, pos := "l09_ledger.go:69", after := #[{ on := 9, ground := Ground.data }, { on := 6, ground := Ground.guard }], guard := some (6, false) }) (v := ?_) rfl (by kernel_rfl) (by kernel_rfl) (by kernel_rfl) (fun _ _ _ h => h) (Or.inl ⟨by rfl, ?_⟩) (by assumption) ?_
        rotate_left
        · (intro w hSw; (try dsimp only at hSw); go_simp) <;> with_reducible rfl
        try simp only [Act.put, List.setIfInBounds_toArray, List.set_cons_zero, List.set_cons_succ]
        refine wpAnyH_take (i := 11) (oi := { dst := some 27, op := Op.load 2 (Operand.tmp 26), type := 2, pos := "l09_ledger.go:69", after := #[{ on := 10, ground := Ground.data }, { on := 6, ground := Ground.guard }], guard := some (6, false) }) (v := ?_) rfl (by kernel_rfl) (by kernel_rfl) (by kernel_rfl) (fun _ _ _ h => h) (Or.inl ⟨by rfl, ?_⟩) (by assumption) ?_
        rotate_left
        · (intro w hSw; (try dsimp only at hSw); go_simp) <;> with_reducible rfl
        try simp only [Act.put, List.setIfInBounds_toArray, List.set_cons_zero, List.set_cons_succ]
        refine wpAnyH_take (i := 12) (oi := { dst := some 28, op := Op.move (Operand.tmp 0), type := 22, pos := "l09_ledger.go:69", after := #[{ on := 6, ground := Ground.guard }], guard := some (6, false) }) (v := ?_) rfl (by kernel_rfl) (by kernel_rfl) (by kernel_rfl) (fun _ _ _ h => h) (Or.inl ⟨by rfl, ?_⟩) (by assumption) ?_
        rotate_left
        · (intro w hSw; (try dsimp only at hSw); go_simp) <;> with_reducible rfl
        try simp only [Act.put, List.setIfInBounds_toArray, List.set_cons_zero, List.set_cons_succ]
        refine wpAnyH_take (i := 13) (oi := { dst := some 29, op := Op.move (Operand.tmp 3), type := 3, pos := "l09_ledger.go:69", after := #[{ on := 6, ground := Ground.guard }], guard := some (6, false) }) (v := ?_) rfl (by kernel_rfl) (by kernel_rfl) (by kernel_rfl) (fun _ _ _ h => h) (Or.inl ⟨by rfl, ?_⟩) (by assumption) ?_
        rotate_left
        · (intro w hSw; (try dsimp only at hSw); go_simp) <;> with_reducible rfl
        try simp only [Act.put, List.setIfInBounds_toArray, List.set_cons_zero, List.set_cons_succ]
        refine wpAnyH_take (i := 14) (oi := { dst := some 30, op := Op.move (Operand.tmp 0), type := 22, pos := "l09_ledger.go:69", after := #[{ on := 6, ground := Ground.guard }], guard := some (6, false) }) (v := ?_) rfl (by kernel_rfl) (by kernel_rfl) (by kernel_rfl) (fun _ _ _ h => h) (Or.inl ⟨by rfl, ?_⟩) (by assumption) ?_
        rotate_left
        · (intro w hSw; (try dsimp only at hSw); go_simp) <;> with_reducible rfl
        try simp only [Act.put, List.setIfInBounds_toArray, List.set_cons_zero, List.set_cons_succ]
        refine wpAnyH_take (i := 15) (oi := { dst := some 31, op := Op.move (Operand.tmp 3), type := 3, pos := "l09_ledger.go:69", after := #[{ on := 6, ground := Ground.guard }], guard := some (6, false) }) (v := ?_) rfl (by kernel_rfl) (by kernel_rfl) (by kernel_rfl) (fun _ _ _ h => h) (Or.inl ⟨by rfl, ?_⟩) (by assumption) ?_
        rotate_left
        · (intro w hSw; (try dsimp only at hSw); go_simp) <;> with_reducible rfl
        try simp only [Act.put, List.setIfInBounds_toArray, List.set_cons_zero, List.set_cons_succ]
        refine wpAnyH_take (i := 16) (oi := { dst := some 32, op := Op.indexAddr 22 (Operand.tmp 30) (Operand.tmp 31), type := 0, pos := "l09_ledger.go:69", after := #[{ on := 14, ground := Ground.data }, { on := 15, ground := Ground.data }, { on := 6, ground := Ground.guard }], guard := some (6, false) }) (v := ?_) rfl (by kernel_rfl) (by kernel_rfl) (by kernel_rfl) (fun _ _ _ h => h) (Or.inl ⟨by rfl, ?_⟩) (by assumption) ?_
        rotate_left
        · (intro w hSw; (try dsimp only at hSw); go_simp) <;> with_reducible rfl
        try simp only [Act.put, List.setIfInBounds_toArray, List.set_cons_zero, List.set_cons_succ]
        refine wpAnyH_take (i := 17) (oi := { dst := some 33, op := Op.fieldAddr 25 (Operand.tmp 32) 0, type := 0, pos := "l09_ledger.go:69", after := #[{ on := 16, ground := Ground.data }, { on := 6, ground := Ground.guard }], guard := some (6, false) }) (v := ?_) rfl (by kernel_rfl) (by kernel_rfl) (by kernel_rfl) (fun _ _ _ h => h) (Or.inl ⟨by rfl, ?_⟩) (by assumption) ?_
        rotate_left
        · (intro w hSw; (try dsimp only at hSw); go_simp) <;> with_reducible rfl
        try simp only [Act.put, List.setIfInBounds_toArray, List.set_cons_zero, List.set_cons_succ]
        refine wpAnyH_take (i := 18) (oi := { dst := some 34, op := Op.load 9 (Operand.tmp 33), type := 9, pos := "l09_ledger.go:69", after := #[{ on := 17, ground := Ground.data }, { on := 6, ground := Ground.guard }], guard := some (6, false) }) (v := ?_) rfl (by kernel_rfl) (by kernel_rfl) (by kernel_rfl) (fun _ _ _ h => h) (Or.inl ⟨by rfl, ?_⟩) (by assumption) ?_
        rotate_left
        · (intro w hSw; (try dsimp only at hSw); go_simp) <;> with_reducible rfl
        try simp only [Act.put, List.setIfInBounds_toArray, List.set_cons_zero, List.set_cons_succ]
        refine wpAnyH_take (i := 19) (oi := { dst := some 35, op := Op.move (Operand.tmp 0), type := 22, pos := "l09_ledger.go:69", after := #[{ on := 6, ground := Ground.guard }], guard := some (6, false) }) (v := ?_) rfl (by kernel_rfl) (by kernel_rfl) (by kernel_rfl) (fun _ _ _ h => h) (Or.inl ⟨by rfl, ?_⟩) (by assumption) ?_
        rotate_left
        · (intro w hSw; (try dsimp only at hSw); go_simp) <;> with_reducible rfl
        try simp only [Act.put, List.setIfInBounds_toArray, List.set_cons_zero, List.set_cons_succ]
        refine wpAnyH_take (i := 20) (oi := { dst := some 36, op := Op.move (Operand.tmp 3), type := 3, pos := "l09_ledger.go:69", after := #[{ on := 6, ground := Ground.guard }], guard := some (6, false) }) (v := ?_) rfl (by kernel_rfl) (by kernel_rfl) (by kernel_rfl) (fun _ _ _ h => h) (Or.inl ⟨by rfl, ?_⟩) (by assumption) ?_
        rotate_left
        · (intro w hSw; (try dsimp only at hSw); go_simp) <;> with_reducible rfl
        try simp only [Act.put, List.setIfInBounds_toArray, List.set_cons_zero, List.set_cons_succ]
        refine wpAnyH_take (i := 21) (oi := { dst := some 37, op := Op.indexAddr 22 (Operand.tmp 35) (Operand.tmp 36), type := 0, pos := "l09_ledger.go:69", after := #[{ on := 19, ground := Ground.data }, { on := 20, ground := Ground.data }, { on := 6, ground := Ground.guard }], guard := some (6, false) }) (v := ?_) rfl (by kernel_rfl) (by kernel_rfl) (by kernel_rfl) (fun _ _ _ h => h) (Or.inl ⟨by rfl, ?_⟩) (by assumption) ?_
        rotate_left
        · (intro w hSw; (try dsimp only at hSw); go_simp) <;> with_reducible rfl
        try simp only [Act.put, List.setIfInBounds_toArray, List.set_cons_zero, List.set_cons_succ]
        refine wpAnyH_take (i := 22) (oi := { dst := some 38, op := Op.fieldAddr 25 (Operand.tmp 37) 1, type := 0, pos := "l09_ledger.go:69", after := #[{ on := 21, ground := Ground.data }, { on := 6, ground := Ground.guard }], guard := some (6, false) }) (v := ?_) rfl (by kernel_rfl) (by kernel_rfl) (by kernel_rfl) (fun _ _ _ h => h) (Or.inl ⟨by rfl, ?_⟩) (by assumption) ?_
        rotate_left
        · (intro w hSw; (try dsimp only at hSw); go_simp) <;> with_reducible rfl
        try simp only [Act.put, List.setIfInBounds_toArray, List.set_cons_zero, List.set_cons_succ]
        refine wpAnyH_take (i := 23) (oi := { dst := some 39, op := Op.load 2 (Operand.tmp 38), type := 2, pos := "l09_ledger.go:69", after := #[{ on := 22, ground := Ground.data }, { on := 6, ground := Ground.guard }], guard := some (6, false) }) (v := ?_) rfl (by kernel_rfl) (by kernel_rfl) (by kernel_rfl) (fun _ _ _ h => h) (Or.inl ⟨by rfl, ?_⟩) (by assumption) ?_
        rotate_left
        · (intro w hSw; (try dsimp only at hSw); go_simp) <;> with_reducible rfl
        try simp only [Act.put, List.setIfInBounds_toArray, List.set_cons_zero, List.set_cons_succ]
        refine wpAnyH_ready (rs := [24]) (by kernel_rfl) (by simp) ?_
        refine AllReadyH.cons (o := { dst := some 40, op := Op.call { callee := Callee.value (Operand.func 58), args := #[Operand.tmp 28, Operand.tmp 29, Operand.tmp 34, Operand.tmp 39], argTypes := #[22, 3, 9, 2] }, type := 2, pos := "l09_ledger.go:69", after := #[{ on := 12, ground := Ground.data }, { on := 13, ground := Ground.data }, { on := 18, ground := Ground.data }, { on := 23, ground := Ground.data }, { on := 6, ground := Ground.chain }, { on := 6, ground := Ground.guard }], guard := some (6, false) }) rfl (fun K hK => ?_) AllReadyH.nil
        go_simp
        go_at_call 58
        refine (HC.out _ hk1.1).mono ?_
        rintro e q2 ⟨rfl, hq2⟩
        try go_wp2_with fail
        have hk2 := QB.below (w := w) (b := b) (o := off + k * 4) (xa := xa) (xm := xm) (xs := xs) (la := la) (ll := ll) (lc := lc) hk1 hq2
        refine hK.out _ _ hk2 (fun _ => ?_)
        clear hK K
        try simp only [Act.put, List.setIfInBounds_toArray, List.set_cons_zero, List.set_cons_succ]
        refine wpAnyH_take (i := 25) (oi := { dst := some 41, op := Op.binOp BinOp.neq 2 (Operand.tmp 27) (Operand.tmp 40) 2, type := 4, pos := "l09_ledger.go:69", after := #[{ on := 11, ground := Ground.data }, { on := 24, ground := Ground.data }, { on := 6, ground := Ground.guard }], guard := some (6, false) }) (v := ?_) rfl (by kernel_rfl) (by kernel_rfl) (by kernel_rfl) (fun _ _ _ h => h) (Or.inl ⟨by rfl, ?_⟩) (by assumption) ?_
        rotate_left
        · (intro w hSw; (try dsimp only at hSw); go_simp) <;> with_reducible rfl
        try simp only [Act.put, List.setIfInBounds_toArray, List.set_cons_zero, List.set_cons_succ]
        refine wpAnyH_take (i := 26) (oi := { dst := some 42, op := Op.pick (Operand.tmp 22) (Operand.const (Value.bool true)) (Operand.tmp 41), type := 4, pos := "l09_ledger.go:69", after := #[{ on := 6, ground := Ground.data }, { on := 25, ground := Ground.data }], guard := none }) (v := ?_) rfl (by kernel_rfl) (by kernel_rfl) (by kernel_rfl) (fun _ _ _ h => h) (Or.inl ⟨by rfl, ?_⟩) (by assumption) ?_
        rotate_left
        · (intro w hSw; (try dsimp only at hSw); go_simp) <;> with_reducible rfl
        try simp only [Act.put, List.setIfInBounds_toArray, List.set_cons_zero, List.set_cons_succ]
        refine wpAnyH_done (by kernel_rfl) ?_ _
        have HBQ := hid_intro hk2.1
        clear hk1 hk2
        go_wp2_with fail
        go_ret
        exact ⟨by rw [HE.out]; rfl, HBQ.out⟩
    · have hlt2 : ¬ (k : Int) < (len : Int) := by omega
      obtain rfl : k = len := by omega
      have HSL : Hid (SOk ds ds.length) := hid_intro (by have h := HS.out; rw [HL.out] at h; exact h)
      obtain ⟨Wo, hWo⟩ : ∃ Wo, Wo = wr := ⟨_, rfl⟩
      subst hWo
      clear HS
      obtain ⟨len, hlen2⟩ : ∃ len, len = k := ⟨_, rfl⟩
      subst hlen2
      go_wp2_with fail
      go_loopw [4] (fun z wr => ∃ k : Nat, k ≤ len ∧ z = .int .i64 k ∧ Hid (NOk ds k) ∧ Hid (Below w.heap.size w wr)) (fun z _ => len - (intOf z).toNat)
      case atStart => exact ⟨0, by omega, rfl, hid_intro (fun i hi => absurd hi (by omega)), HB⟩
      case round =>
        clear HB
        obtain ⟨k, hk, rfl, HN, HB⟩ := hrel
        by_cases hlt : k < len
        · have hlt2 : (k : Int) < (len : Int) := by omega
          have hkl : k < ds.length := by have := HL.out; omega
          obtain ⟨b, off, la, lc, rfl, hbl, c0, c1, c2, c3, hLi⟩ := (HI.out.below HB.out).at k hkl
          obtain ⟨X, hX⟩ : ∃ X, X = ds.getD k D.zero := ⟨_, rfl⟩
          rw [← hX] at c0 c1 c2 c3
          have HXX := hid_intro hX
          clear hX hLi
          obtain ⟨xa, xm, xs, xl⟩ := X
          dsimp only at c0 c1 c2 c3
          generalize xl.length = ll at *
          have HSM : Hid (Calls Try.prog 60 #[.slice (some ⟨b, off, none⟩) len cap, .string xa, .int .i64 xm] wr.drew fun e w' => ∃ v, e = .returned v ∧ OwnN w' wr.drew.heap.size v (net ds xa xm) ∧ Below wr.drew.heap.size wr.drew w') := hid_intro (by have h := ssum (some ⟨b, off, none⟩) cap ds xa xm wr.drew (by have := HL.out; omega) HSL.out (HI.out.below (HB.out.trans ((Below.refl _ _).drew.mono HB.out.size))); rw [← HL.out] at h; exact h)
          have HNL : Hid ((net ds xa xm).length ≤ 1000) := hid_intro (by have h := (net_facts (ds := ds) ds.length (Nat.le_refl _) HSL.out xa xm).2.1; rw [List.take_length] at h; have := HL.out; omega)
          have HNO : Hid (ovB (net ds xa xm) = false → R = false) := hid_intro (fun h => by rw [← HR.out]; exact lB_no (fun hr => by
            have h1 := hr.2.2 k hkl
            rw [← HXX.out] at h1
            rw [h] at h1
            cases h1))
          have HYE : Hid (ovB (net ds xa xm) = true → NOk ds (k + 1)) := hid_intro (fun h i hi => by
            by_cases e : i = k
            · subst e
              rw [← HXX.out]
              exact h
            · exact HN.out i (by omega))
          have HS0 : Hid (QB w b (off + k * 4) xa xm xs la ll lc wr.drew) := hid_intro ⟨HB.out.drew, hbl, c0, c1, c2, c3⟩
          clear c0 c1 c2 c3
          cases ho : ovB (net ds xa xm)
          · have HE := hid_intro (HNO.out ho)
            have HOV := hid_intro ho
            clear ho
            go_wp2_with fail
            refine wp_region_held_drew (S := (fun W => Below w.heap.size w W ∧ b < W.heap.size ∧ W.cell? ⟨b, off + k * 4, none⟩ = some (.string xa) ∧ W.cell? ⟨b, off + k * 4 + 1, none⟩ = some (.int .i64 xm) ∧ W.cell? ⟨b, off + k * 4 + 2, none⟩ = some (.int .i64 xs) ∧ W.cell? ⟨b, off + k * 4 + 3, none⟩ = some (.slice la ll lc))) (by kernel_rfl) HS0.out (fun hHeld => ?_)
            refine wpAnyH_take (i := 0) (oi := { dst := some 50, op := Op.move (Operand.tmp 0), type := 22, pos := "l09_ledger.go:74", after := #[], guard := none }) (v := ?_) rfl (by kernel_rfl) (by kernel_rfl) (by kernel_rfl) (fun _ _ _ h => h) (Or.inl ⟨by rfl, ?_⟩) (by assumption) ?_
            rotate_left
            · (intro w hSw; (try dsimp only at hSw); go_simp) <;> with_reducible rfl
            try simp only [Act.put, List.setIfInBounds_toArray, List.set_cons_zero, List.set_cons_succ]
            refine wpAnyH_take (i := 1) (oi := { dst := some 51, op := Op.move (Operand.tmp 0), type := 22, pos := "l09_ledger.go:74", after := #[], guard := none }) (v := ?_) rfl (by kernel_rfl) (by kernel_rfl) (by kernel_rfl) (fun _ _ _ h => h) (Or.inl ⟨by rfl, ?_⟩) (by assumption) ?_
            rotate_left
            · (intro w hSw; (try dsimp only at hSw); go_simp) <;> with_reducible rfl
            try simp only [Act.put, List.setIfInBounds_toArray, List.set_cons_zero, List.set_cons_succ]
            refine wpAnyH_take (i := 2) (oi := { dst := some 52, op := Op.move (Operand.tmp 4), type := 3, pos := "l09_ledger.go:74", after := #[], guard := none }) (v := ?_) rfl (by kernel_rfl) (by kernel_rfl) (by kernel_rfl) (fun _ _ _ h => h) (Or.inl ⟨by rfl, ?_⟩) (by assumption) ?_
            rotate_left
            · (intro w hSw; (try dsimp only at hSw); go_simp) <;> with_reducible rfl
            try simp only [Act.put, List.setIfInBounds_toArray, List.set_cons_zero, List.set_cons_succ]
            refine wpAnyH_take (i := 3) (oi := { dst := some 53, op := Op.indexAddr 22 (Operand.tmp 51) (Operand.tmp 52), type := 0, pos := "l09_ledger.go:74", after := #[{ on := 1, ground := Ground.data }, { on := 2, ground := Ground.data }], guard := none }) (v := ?_) rfl (by kernel_rfl) (by kernel_rfl) (by kernel_rfl) (fun _ _ _ h => h) (Or.inl ⟨by rfl, ?_⟩) (by assumption) ?_
            rotate_left
            · (intro w hSw; (try dsimp only at hSw); go_simp) <;> with_reducible rfl
            try simp only [Act.put, List.setIfInBounds_toArray, List.set_cons_zero, List.set_cons_succ]
            refine wpAnyH_take (i := 4) (oi := { dst := some 54, op := Op.fieldAddr 25 (Operand.tmp 53) 0, type := 0, pos := "l09_ledger.go:74", after := #[{ on := 3, ground := Ground.data }], guard := none }) (v := ?_) rfl (by kernel_rfl) (by kernel_rfl) (by kernel_rfl) (fun _ _ _ h => h) (Or.inl ⟨by rfl, ?_⟩) (by assumption) ?_
            rotate_left
            · (intro w hSw; (try dsimp only at hSw); go_simp) <;> with_reducible rfl
            try simp only [Act.put, List.setIfInBounds_toArray, List.set_cons_zero, List.set_cons_succ]
            refine wpAnyH_take (i := 5) (oi := { dst := some 55, op := Op.load 9 (Operand.tmp 54), type := 9, pos := "l09_ledger.go:74", after := #[{ on := 4, ground := Ground.data }], guard := none }) (v := ?_) rfl (by kernel_rfl) (by kernel_rfl) (by kernel_rfl) (fun _ _ _ h => h) (Or.inl ⟨by rfl, ?_⟩) (by assumption) ?_
            rotate_left
            · (intro w hSw; (try dsimp only at hSw); go_simp) <;> with_reducible rfl
            try simp only [Act.put, List.setIfInBounds_toArray, List.set_cons_zero, List.set_cons_succ]
            refine wpAnyH_take (i := 6) (oi := { dst := some 56, op := Op.move (Operand.tmp 0), type := 22, pos := "l09_ledger.go:74", after := #[], guard := none }) (v := ?_) rfl (by kernel_rfl) (by kernel_rfl) (by kernel_rfl) (fun _ _ _ h => h) (Or.inl ⟨by rfl, ?_⟩) (by assumption) ?_
            rotate_left
            · (intro w hSw; (try dsimp only at hSw); go_simp) <;> with_reducible rfl
            try simp only [Act.put, List.setIfInBounds_toArray, List.set_cons_zero, List.set_cons_succ]
            refine wpAnyH_take (i := 7) (oi := { dst := some 57, op := Op.move (Operand.tmp 4), type := 3, pos := "l09_ledger.go:74", after := #[], guard := none }) (v := ?_) rfl (by kernel_rfl) (by kernel_rfl) (by kernel_rfl) (fun _ _ _ h => h) (Or.inl ⟨by rfl, ?_⟩) (by assumption) ?_
            rotate_left
            · (intro w hSw; (try dsimp only at hSw); go_simp) <;> with_reducible rfl
            try simp only [Act.put, List.setIfInBounds_toArray, List.set_cons_zero, List.set_cons_succ]
            refine wpAnyH_take (i := 8) (oi := { dst := some 58, op := Op.indexAddr 22 (Operand.tmp 56) (Operand.tmp 57), type := 0, pos := "l09_ledger.go:74", after := #[{ on := 6, ground := Ground.data }, { on := 7, ground := Ground.data }], guard := none }) (v := ?_) rfl (by kernel_rfl) (by kernel_rfl) (by kernel_rfl) (fun _ _ _ h => h) (Or.inl ⟨by rfl, ?_⟩) (by assumption) ?_
            rotate_left
            · (intro w hSw; (try dsimp only at hSw); go_simp) <;> with_reducible rfl
            try simp only [Act.put, List.setIfInBounds_toArray, List.set_cons_zero, List.set_cons_succ]
            refine wpAnyH_take (i := 9) (oi := { dst := some 59, op := Op.fieldAddr 25 (Operand.tmp 58) 1, type := 0, pos := "l09_ledger.go:74", after := #[{ on := 8, ground := Ground.data }], guard := none }) (v := ?_) rfl (by kernel_rfl) (by kernel_rfl) (by kernel_rfl) (fun _ _ _ h => h) (Or.inl ⟨by rfl, ?_⟩) (by assumption) ?_
            rotate_left
            · (intro w hSw; (try dsimp only at hSw); go_simp) <;> with_reducible rfl
            try simp only [Act.put, List.setIfInBounds_toArray, List.set_cons_zero, List.set_cons_succ]
            refine wpAnyH_take (i := 10) (oi := { dst := some 60, op := Op.load 2 (Operand.tmp 59), type := 2, pos := "l09_ledger.go:74", after := #[{ on := 9, ground := Ground.data }], guard := none }) (v := ?_) rfl (by kernel_rfl) (by kernel_rfl) (by kernel_rfl) (fun _ _ _ h => h) (Or.inl ⟨by rfl, ?_⟩) (by assumption) ?_
            rotate_left
            · (intro w hSw; (try dsimp only at hSw); go_simp) <;> with_reducible rfl
            try simp only [Act.put, List.setIfInBounds_toArray, List.set_cons_zero, List.set_cons_succ]
            refine wpAnyH_ready (rs := [11]) (by kernel_rfl) (by simp) ?_
            refine AllReadyH.cons (o := { dst := some 61, op := Op.call { callee := Callee.value (Operand.func 60), args := #[Operand.tmp 50, Operand.tmp 55, Operand.tmp 60], argTypes := #[22, 9, 2] }, type := 23, pos := "l09_ledger.go:74", after := #[{ on := 0, ground := Ground.data }, { on := 5, ground := Ground.data }, { on := 10, ground := Ground.data }], guard := none }) rfl (fun K hK => ?_) AllReadyH.nil
            go_simp
            go_at_call 60
            refine HSM.out.mono ?_
            rintro e q1 ⟨v, rfl, hv, hq1⟩
            obtain ⟨g, cp, rfl, g1, g2, g3, g4, g5⟩ := hv.open
            have HCL := hid_intro (sclean (some ⟨g, 0, none⟩) cp (net ds xa xm) q1 (by have := HNL.out; omega) g5)
            clear hv g5
            try go_wp2_with fail
            have hk1 := QB.below (w := w) (b := b) (o := off + k * 4) (xa := xa) (xm := xm) (xs := xs) (la := la) (ll := ll) (lc := lc) HS0.out hq1
            refine hK.out _ _ hk1 (fun _ => ?_)
            clear hK K
            try simp only [Act.put, List.setIfInBounds_toArray, List.set_cons_zero, List.set_cons_succ]
            refine wpAnyH_ready (rs := [12]) (by kernel_rfl) (by simp) ?_
            refine AllReadyH.cons (o := { dst := some 62, op := Op.call { callee := Callee.value (Operand.func 59), args := #[Operand.tmp 61], argTypes := #[23] }, type := 94, pos := "l09_ledger.go:74", after := #[{ on := 11, ground := Ground.data }, { on := 11, ground := Ground.chain }], guard := none }) rfl (fun K hK => ?_) AllReadyH.nil
            go_simp
            go_at_call 59
            refine HCL.out.mono ?_
            rintro e q2 ⟨v2, rfl, hv2, hq2⟩
            clear hv2
            try go_wp2_with fail
            have hk2 := QB.below (w := w) (b := b) (o := off + k * 4) (xa := xa) (xm := xm) (xs := xs) (la := la) (ll := ll) (lc := lc) hk1 hq2
            refine hK.out _ _ hk2 (fun _ => ?_)
            clear hK K
            try simp only [Act.put, List.setIfInBounds_toArray, List.set_cons_zero, List.set_cons_succ]
            refine wpAnyH_take (i := 13) (oi := { dst := some 49, op := Op.move (Operand.tmp 62), type := 94, pos := "l09_ledger.go:74", after := #[{ on := 12, ground := Ground.data }], guard := none }) (v := ?_) rfl (by kernel_rfl) (by kernel_rfl) (by kernel_rfl) (fun _ _ _ h => h) (Or.inl ⟨by rfl, ?_⟩) (by assumption) ?_
            rotate_left
            · (intro w hSw; (try dsimp only at hSw); go_simp) <;> with_reducible rfl
            try simp only [Act.put, List.setIfInBounds_toArray, List.set_cons_zero, List.set_cons_succ]
            refine wpAnyH_take (i := 14) (oi := { dst := some 63, op := Op.extract (Operand.tmp 49) 0, type := 23, pos := "l09_ledger.go:74", after := #[{ on := 13, ground := Ground.data }], guard := none }) (v := ?_) rfl (by kernel_rfl) (by kernel_rfl) (by kernel_rfl) (fun _ _ _ h => h) (Or.inl ⟨by rfl, ?_⟩) (by assumption) ?_
            rotate_left
            · (intro w hSw; (try dsimp only at hSw); go_simp) <;> with_reducible rfl
            try simp only [Act.put, List.setIfInBounds_toArray, List.set_cons_zero, List.set_cons_succ]
            refine wpAnyH_take (i := 15) (oi := { dst := some 64, op := Op.extract (Operand.tmp 49) 1, type := 4, pos := "l09_ledger.go:74", after := #[{ on := 13, ground := Ground.data }, { on := 16, ground := Ground.gcOnly Departure.lateStores }], guard := none }) (v := ?_) rfl (by kernel_rfl) (by kernel_rfl) (by kernel_rfl) (fun _ _ _ h => h) (Or.inl ⟨by rfl, ?_⟩) (by assumption) ?_
            rotate_left
            · (intro w hSw; (try dsimp only at hSw); go_simp) <;> with_reducible rfl
            try simp only [Act.put, List.setIfInBounds_toArray, List.set_cons_zero, List.set_cons_succ]
            refine wpAnyH_take (i := 16) (oi := { dst := some 5, op := Op.assign (Operand.tmp 63), type := 23, pos := "l09_ledger.go:74", after := #[{ on := 14, ground := Ground.data }, { on := 12, ground := Ground.chain }, { on := 0, ground := Ground.phase }, { on := 1, ground := Ground.phase }, { on := 2, ground := Ground.phase }, { on := 3, ground := Ground.phase }, { on := 4, ground := Ground.phase }, { on := 5, ground := Ground.phase }, { on := 6, ground := Ground.phase }, { on := 7, ground := Ground.phase }, { on := 8, ground := Ground.phase }, { on := 9, ground := Ground.phase }, { on := 10, ground := Ground.phase }, { on := 11, ground := Ground.phase }, { on := 12, ground := Ground.phase }, { on := 13, ground := Ground.phase }, { on := 14, ground := Ground.phase }, { on := 15, ground := Ground.textOnly Departure.lateStores }], guard := none }) (v := ?_) rfl (by kernel_rfl) (by kernel_rfl) (by kernel_rfl) (fun _ _ _ h => h) (Or.inl ⟨by rfl, ?_⟩) (by assumption) ?_
            rotate_left
            · (intro w hSw; (try dsimp only at hSw); go_simp) <;> with_reducible rfl
            try simp only [Act.put, List.setIfInBounds_toArray, List.set_cons_zero, List.set_cons_succ]
            refine wpAnyH_take (i := 17) (oi := { dst := some 6, op := Op.assign (Operand.tmp 64), type := 4, pos := "l09_ledger.go:74", after := #[{ on := 15, ground := Ground.data }, { on := 16, ground := Ground.chain }, { on := 0, ground := Ground.phase }, { on := 1, ground := Ground.phase }, { on := 2, ground := Ground.phase }, { on := 3, ground := Ground.phase }, { on := 4, ground := Ground.phase }, { on := 5, ground := Ground.phase }, { on := 6, ground := Ground.phase }, { on := 7, ground := Ground.phase }, { on := 8, ground := Ground.phase }, { on := 9, ground := Ground.phase }, { on := 10, ground := Ground.phase }, { on := 11, ground := Ground.phase }, { on := 12, ground := Ground.phase }, { on := 13, ground := Ground.phase }, { on := 14, ground := Ground.phase }, { on := 15, ground := Ground.phase }, { on := 16, ground := Ground.phase }], guard := none }) (v := ?_) rfl (by kernel_rfl) (by kernel_rfl) (by kernel_rfl) (fun _ _ _ h => h) (Or.inl ⟨by rfl, ?_⟩) (by assumption) ?_
            rotate_left
            · (intro w hSw; (try dsimp only at hSw); go_simp) <;> with_reducible rfl
            try simp only [Act.put, List.setIfInBounds_toArray, List.set_cons_zero, List.set_cons_succ]
            refine wpAnyH_done (by kernel_rfl) ?_ _
            have HBQ := hid_intro hk2.1
            clear hk1 hk2 HCL
            rw [HOV.out]
            go_wp2_with fail
            go_ret
            exact ⟨by rw [HE.out]; rfl, HBQ.out⟩
          · have HE := hid_intro (HYE.out ho)
            have HOV := hid_intro ho
            clear ho
            go_wp2_with fail
            refine wp_region_held_drew (S := (fun W => Below w.heap.size w W ∧ b < W.heap.size ∧ W.cell? ⟨b, off + k * 4, none⟩ = some (.string xa) ∧ W.cell? ⟨b, off + k * 4 + 1, none⟩ = some (.int .i64 xm) ∧ W.cell? ⟨b, off + k * 4 + 2, none⟩ = some (.int .i64 xs) ∧ W.cell? ⟨b, off + k * 4 + 3, none⟩ = some (.slice la ll lc))) (by kernel_rfl) HS0.out (fun hHeld => ?_)
            refine wpAnyH_take (i := 0) (oi := { dst := some 50, op := Op.move (Operand.tmp 0), type := 22, pos := "l09_ledger.go:74", after := #[], guard := none }) (v := ?_) rfl (by kernel_rfl) (by kernel_rfl) (by kernel_rfl) (fun _ _ _ h => h) (Or.inl ⟨by rfl, ?_⟩) (by assumption) ?_
            rotate_left
            · (intro w hSw; (try dsimp only at hSw); go_simp) <;> with_reducible rfl
            try simp only [Act.put, List.setIfInBounds_toArray, List.set_cons_zero, List.set_cons_succ]
            refine wpAnyH_take (i := 1) (oi := { dst := some 51, op := Op.move (Operand.tmp 0), type := 22, pos := "l09_ledger.go:74", after := #[], guard := none }) (v := ?_) rfl (by kernel_rfl) (by kernel_rfl) (by kernel_rfl) (fun _ _ _ h => h) (Or.inl ⟨by rfl, ?_⟩) (by assumption) ?_
            rotate_left
            · (intro w hSw; (try dsimp only at hSw); go_simp) <;> with_reducible rfl
            try simp only [Act.put, List.setIfInBounds_toArray, List.set_cons_zero, List.set_cons_succ]
            refine wpAnyH_take (i := 2) (oi := { dst := some 52, op := Op.move (Operand.tmp 4), type := 3, pos := "l09_ledger.go:74", after := #[], guard := none }) (v := ?_) rfl (by kernel_rfl) (by kernel_rfl) (by kernel_rfl) (fun _ _ _ h => h) (Or.inl ⟨by rfl, ?_⟩) (by assumption) ?_
            rotate_left
            · (intro w hSw; (try dsimp only at hSw); go_simp) <;> with_reducible rfl
            try simp only [Act.put, List.setIfInBounds_toArray, List.set_cons_zero, List.set_cons_succ]
            refine wpAnyH_take (i := 3) (oi := { dst := some 53, op := Op.indexAddr 22 (Operand.tmp 51) (Operand.tmp 52), type := 0, pos := "l09_ledger.go:74", after := #[{ on := 1, ground := Ground.data }, { on := 2, ground := Ground.data }], guard := none }) (v := ?_) rfl (by kernel_rfl) (by kernel_rfl) (by kernel_rfl) (fun _ _ _ h => h) (Or.inl ⟨by rfl, ?_⟩) (by assumption) ?_
            rotate_left
            · (intro w hSw; (try dsimp only at hSw); go_simp) <;> with_reducible rfl
            try simp only [Act.put, List.setIfInBounds_toArray, List.set_cons_zero, List.set_cons_succ]
            refine wpAnyH_take (i := 4) (oi := { dst := some 54, op := Op.fieldAddr 25 (Operand.tmp 53) 0, type := 0, pos := "l09_ledger.go:74", after := #[{ on := 3, ground := Ground.data }], guard := none }) (v := ?_) rfl (by kernel_rfl) (by kernel_rfl) (by kernel_rfl) (fun _ _ _ h => h) (Or.inl ⟨by rfl, ?_⟩) (by assumption) ?_
            rotate_left
            · (intro w hSw; (try dsimp only at hSw); go_simp) <;> with_reducible rfl
            try simp only [Act.put, List.setIfInBounds_toArray, List.set_cons_zero, List.set_cons_succ]
            refine wpAnyH_take (i := 5) (oi := { dst := some 55, op := Op.load 9 (Operand.tmp 54), type := 9, pos := "l09_ledger.go:74", after := #[{ on := 4, ground := Ground.data }], guard := none }) (v := ?_) rfl (by kernel_rfl) (by kernel_rfl) (by kernel_rfl) (fun _ _ _ h => h) (Or.inl ⟨by rfl, ?_⟩) (by assumption) ?_
            rotate_left
            · (intro w hSw; (try dsimp only at hSw); go_simp) <;> with_reducible rfl
            try simp only [Act.put, List.setIfInBounds_toArray, List.set_cons_zero, List.set_cons_succ]
            refine wpAnyH_take (i := 6) (oi := { dst := some 56, op := Op.move (Operand.tmp 0), type := 22, pos := "l09_ledger.go:74", after := #[], guard := none }) (v := ?_) rfl (by kernel_rfl) (by kernel_rfl) (by kernel_rfl) (fun _ _ _ h => h) (Or.inl ⟨by rfl, ?_⟩) (by assumption) ?_
            rotate_left
            · (intro w hSw; (try dsimp only at hSw); go_simp) <;> with_reducible rfl
            try simp only [Act.put, List.setIfInBounds_toArray, List.set_cons_zero, List.set_cons_succ]
            refine wpAnyH_take (i := 7) (oi := { dst := some 57, op := Op.move (Operand.tmp 4), type := 3, pos := "l09_ledger.go:74", after := #[], guard := none }) (v := ?_) rfl (by kernel_rfl) (by kernel_rfl) (by kernel_rfl) (fun _ _ _ h => h) (Or.inl ⟨by rfl, ?_⟩) (by assumption) ?_
            rotate_left
            · (intro w hSw; (try dsimp only at hSw); go_simp) <;> with_reducible rfl
            try simp only [Act.put, List.setIfInBounds_toArray, List.set_cons_zero, List.set_cons_succ]
            refine wpAnyH_take (i := 8) (oi := { dst := some 58, op := Op.indexAddr 22 (Operand.tmp 56) (Operand.tmp 57), type := 0, pos := "l09_ledger.go:74", after := #[{ on := 6, ground := Ground.data }, { on := 7, ground := Ground.data }], guard := none }) (v := ?_) rfl (by kernel_rfl) (by kernel_rfl) (by kernel_rfl) (fun _ _ _ h => h) (Or.inl ⟨by rfl, ?_⟩) (by assumption) ?_
            rotate_left
            · (intro w hSw; (try dsimp only at hSw); go_simp) <;> with_reducible rfl
            try simp only [Act.put, List.setIfInBounds_toArray, List.set_cons_zero, List.set_cons_succ]
            refine wpAnyH_take (i := 9) (oi := { dst := some 59, op := Op.fieldAddr 25 (Operand.tmp 58) 1, type := 0, pos := "l09_ledger.go:74", after := #[{ on := 8, ground := Ground.data }], guard := none }) (v := ?_) rfl (by kernel_rfl) (by kernel_rfl) (by kernel_rfl) (fun _ _ _ h => h) (Or.inl ⟨by rfl, ?_⟩) (by assumption) ?_
            rotate_left
            · (intro w hSw; (try dsimp only at hSw); go_simp) <;> with_reducible rfl
            try simp only [Act.put, List.setIfInBounds_toArray, List.set_cons_zero, List.set_cons_succ]
            refine wpAnyH_take (i := 10) (oi := { dst := some 60, op := Op.load 2 (Operand.tmp 59), type := 2, pos := "l09_ledger.go:74", after := #[{ on := 9, ground := Ground.data }], guard := none }) (v := ?_) rfl (by kernel_rfl) (by kernel_rfl) (by kernel_rfl) (fun _ _ _ h => h) (Or.inl ⟨by rfl, ?_⟩) (by assumption) ?_
            rotate_left
            · (intro w hSw; (try dsimp only at hSw); go_simp) <;> with_reducible rfl
            try simp only [Act.put, List.setIfInBounds_toArray, List.set_cons_zero, List.set_cons_succ]
            refine wpAnyH_ready (rs := [11]) (by kernel_rfl) (by simp) ?_
            refine AllReadyH.cons (o := { dst := some 61, op := Op.call { callee := Callee.value (Operand.func 60), args := #[Operand.tmp 50, Operand.tmp 55, Operand.tmp 60], argTypes := #[22, 9, 2] }, type := 23, pos := "l09_ledger.go:74", after := #[{ on := 0, ground := Ground.data }, { on := 5, ground := Ground.data }, { on := 10, ground := Ground.data }], guard := none }) rfl (fun K hK => ?_) AllReadyH.nil
            go_simp
            go_at_call 60
            refine HSM.out.mono ?_
            rintro e q1 ⟨v, rfl, hv, hq1⟩
            obtain ⟨g, cp, rfl, g1, g2, g3, g4, g5⟩ := hv.open
            have HCL := hid_intro (sclean (some ⟨g, 0, none⟩) cp (net ds xa xm) q1 (by have := HNL.out; omega) g5)
            clear hv g5
            try go_wp2_with fail
            have hk1 := QB.below (w := w) (b := b) (o := off + k * 4) (xa := xa) (xm := xm) (xs := xs) (la := la) (ll := ll) (lc := lc) HS0.out hq1
            refine hK.out _ _ hk1 (fun _ => ?_)
            clear hK K
            try simp only [Act.put, List.setIfInBounds_toArray, List.set_cons_zero, List.set_cons_succ]
            refine wpAnyH_ready (rs := [12]) (by kernel_rfl) (by simp) ?_
            refine AllReadyH.cons (o := { dst := some 62, op := Op.call { callee := Callee.value (Operand.func 59), args := #[Operand.tmp 61], argTypes := #[23] }, type := 94, pos := "l09_ledger.go:74", after := #[{ on := 11, ground := Ground.data }, { on := 11, ground := Ground.chain }], guard := none }) rfl (fun K hK => ?_) AllReadyH.nil
            go_simp
            go_at_call 59
            refine HCL.out.mono ?_
            rintro e q2 ⟨v2, rfl, hv2, hq2⟩
            clear hv2
            try go_wp2_with fail
            have hk2 := QB.below (w := w) (b := b) (o := off + k * 4) (xa := xa) (xm := xm) (xs := xs) (la := la) (ll := ll) (lc := lc) hk1 hq2
            refine hK.out _ _ hk2 (fun _ => ?_)
            clear hK K
            try simp only [Act.put, List.setIfInBounds_toArray, List.set_cons_zero, List.set_cons_succ]
            refine wpAnyH_take (i := 13) (oi := { dst := some 49, op := Op.move (Operand.tmp 62), type := 94, pos := "l09_ledger.go:74", after := #[{ on := 12, ground := Ground.data }], guard := none }) (v := ?_) rfl (by kernel_rfl) (by kernel_rfl) (by kernel_rfl) (fun _ _ _ h => h) (Or.inl ⟨by rfl, ?_⟩) (by assumption) ?_
            rotate_left
            · (intro w hSw; (try dsimp only at hSw); go_simp) <;> with_reducible rfl
            try simp only [Act.put, List.setIfInBounds_toArray, List.set_cons_zero, List.set_cons_succ]
            refine wpAnyH_take (i := 14) (oi := { dst := some 63, op := Op.extract (Operand.tmp 49) 0, type := 23, pos := "l09_ledger.go:74", after := #[{ on := 13, ground := Ground.data }], guard := none }) (v := ?_) rfl (by kernel_rfl) (by kernel_rfl) (by kernel_rfl) (fun _ _ _ h => h) (Or.inl ⟨by rfl, ?_⟩) (by assumption) ?_
            rotate_left
            · (intro w hSw; (try dsimp only at hSw); go_simp) <;> with_reducible rfl
            try simp only [Act.put, List.setIfInBounds_toArray, List.set_cons_zero, List.set_cons_succ]
            refine wpAnyH_take (i := 15) (oi := { dst := some 64, op := Op.extract (Operand.tmp 49) 1, type := 4, pos := "l09_ledger.go:74", after := #[{ on := 13, ground := Ground.data }, { on := 16, ground := Ground.gcOnly Departure.lateStores }], guard := none }) (v := ?_) rfl (by kernel_rfl) (by kernel_rfl) (by kernel_rfl) (fun _ _ _ h => h) (Or.inl ⟨by rfl, ?_⟩) (by assumption) ?_
            rotate_left
            · (intro w hSw; (try dsimp only at hSw); go_simp) <;> with_reducible rfl
            try simp only [Act.put, List.setIfInBounds_toArray, List.set_cons_zero, List.set_cons_succ]
            refine wpAnyH_take (i := 16) (oi := { dst := some 5, op := Op.assign (Operand.tmp 63), type := 23, pos := "l09_ledger.go:74", after := #[{ on := 14, ground := Ground.data }, { on := 12, ground := Ground.chain }, { on := 0, ground := Ground.phase }, { on := 1, ground := Ground.phase }, { on := 2, ground := Ground.phase }, { on := 3, ground := Ground.phase }, { on := 4, ground := Ground.phase }, { on := 5, ground := Ground.phase }, { on := 6, ground := Ground.phase }, { on := 7, ground := Ground.phase }, { on := 8, ground := Ground.phase }, { on := 9, ground := Ground.phase }, { on := 10, ground := Ground.phase }, { on := 11, ground := Ground.phase }, { on := 12, ground := Ground.phase }, { on := 13, ground := Ground.phase }, { on := 14, ground := Ground.phase }, { on := 15, ground := Ground.textOnly Departure.lateStores }], guard := none }) (v := ?_) rfl (by kernel_rfl) (by kernel_rfl) (by kernel_rfl) (fun _ _ _ h => h) (Or.inl ⟨by rfl, ?_⟩) (by assumption) ?_
            rotate_left
            · (intro w hSw; (try dsimp only at hSw); go_simp) <;> with_reducible rfl
            try simp only [Act.put, List.setIfInBounds_toArray, List.set_cons_zero, List.set_cons_succ]
            refine wpAnyH_take (i := 17) (oi := { dst := some 6, op := Op.assign (Operand.tmp 64), type := 4, pos := "l09_ledger.go:74", after := #[{ on := 15, ground := Ground.data }, { on := 16, ground := Ground.chain }, { on := 0, ground := Ground.phase }, { on := 1, ground := Ground.phase }, { on := 2, ground := Ground.phase }, { on := 3, ground := Ground.phase }, { on := 4, ground := Ground.phase }, { on := 5, ground := Ground.phase }, { on := 6, ground := Ground.phase }, { on := 7, ground := Ground.phase }, { on := 8, ground := Ground.phase }, { on := 9, ground := Ground.phase }, { on := 10, ground := Ground.phase }, { on := 11, ground := Ground.phase }, { on := 12, ground := Ground.phase }, { on := 13, ground := Ground.phase }, { on := 14, ground := Ground.phase }, { on := 15, ground := Ground.phase }, { on := 16, ground := Ground.phase }], guard := none }) (v := ?_) rfl (by kernel_rfl) (by kernel_rfl) (by kernel_rfl) (fun _ _ _ h => h) (Or.inl ⟨by rfl, ?_⟩) (by assumption) ?_
            rotate_left
            · (intro w hSw; (try dsimp only at hSw); go_simp) <;> with_reducible rfl
            try simp only [Act.put, List.setIfInBounds_toArray, List.set_cons_zero, List.set_cons_succ]
            refine wpAnyH_done (by kernel_rfl) ?_ _
            have HBQ := hid_intro hk2.1
            clear hk1 hk2 HCL
            rw [HOV.out]
            go_wp2_with fail
            go_roundw
            case rel => exact ⟨k + 1, by omega, by go_num, HE, HBQ⟩
            case measure => simp [intOf]; omega
        · have hlt2 : ¬ (k : Int) < (len : Int) := by omega
          obtain rfl : k = len := by omega
          have HE : Hid (R = true) := hid_intro (by rw [← HR.out]; exact lB_yes ⟨by have := HL.out; omega, HSL.out, by have h := HN.out; rw [HL.out] at h; exact h⟩)
          go_wp2_with fail
          go_ret
          exact ⟨by rw [HE.out]; rfl, HB.out⟩
set_option maxRecDepth 100000 in
set_option maxHeartbeats 4000000 in
theorem impl_ledger (ao : Option Addr) (cap : Nat) (ds : List D) (w : World) (hlen : ds.length ≤ 1048576) (hSm : ∀ d ∈ ds, d.Sm) (hwf : ∀ d ∈ ds, (Lit.int .i64 d.mo).wf = true) (hI : Dcs ao ds w) :
    Calls Try.prog 22 #[.slice ao ds.length cap] w fun e w' => e = .returned (.bool (lB ds)) ∧ Below w.heap.size w w' := by
  have H1 := hid_intro (irows ao cap ds w hlen hSm hwf hI)
  unfold RowsR at H1
  generalize lB ds = r at *
  generalize ds.length = len at *
  clear hI hSm hwf
  go_enter Try.func22, Try.ntmps22
  go_wp2_with fail
  refine H1.out.mono ?_
  rintro e w1 ⟨hb, ⟨rfl, c, rfl⟩ | ⟨rfl, M, rfl, _⟩⟩
  · have HB := hid_intro hb
    clear hb
    go_wp2_with fail
    go_ret
    exact ⟨rfl, HB.out⟩
  · have HB := hid_intro hb
    clear hb
    go_wp2_with fail
    go_ret
    exact ⟨rfl, HB.out⟩
end LedR
end Go.Proofs.Ytppdilomefoaaaa
namespace Go.Proofs.Ytppdilomefoaaaa
open Go.ChangeShapes Go.WideShapes Go.ChangeAt Go.RowKit
set_option linter.unusedVariables false
namespace LedR
open LinR NetR DocR
open LtR (lt)
open RowG (Rws MadeG hid_intro getD_mem)
open NumR (numB)
open JoinR (joinB jl)
open CatR (Blk)
/-- The parts of a ledger, with so many documents; its bytes. -/
def lP (ds : List D) (k : Nat) : List ByteArray := [numB ds.length] ++ (ds.take k).map dBy
def lBy (ds : List D) : ByteArray := joinB (lP ds ds.length)
/-- Both answers. -/
def lbB (ds : List D) : ByteArray := bif lB ds then (bif decide ((lBy ds).size ≤ 8000) then lBy ds else ⟨#[]⟩) else ⟨#[]⟩
theorem lP_len (ds : List D) (k : Nat) (h : k ≤ ds.length) : (lP ds k).length = 1 + k := by
  unfold lP
  simp only [List.length_append, List.length_cons, List.length_nil, List.length_map, List.length_take]
  omega
theorem lP_more (ds : List D) (k : Nat) (h : k < ds.length) : lP ds (k + 1) = lP ds k ++ [dBy (ds.getD k D.zero)] := by
  unfold lP; rw [take_map ds dBy D.zero k h, ← List.append_assoc]
theorem dBy_le {x : D} (h : dB x = true) : (dBy x).size ≤ 1000 := bP_le h _ (Nat.le_refl _)
theorem lP_le {ds : List D} (h : LRight ds) (k : Nat) : (joinB (lP ds k)).size ≤ 40000 := by
  have h1 : ∀ y ∈ lP ds k, y.size ≤ 1000 := by
    intro y hy
    unfold lP at hy
    simp only [List.mem_append, List.mem_cons, List.not_mem_nil, or_false, List.mem_map] at hy
    rcases hy with rfl | ⟨d, hd, rfl⟩
    · have := num_le (n := (ds.length : Int)) (by omega) (by have := h.1; omega); omega
    · obtain ⟨i, hi, rfl⟩ := List.getElem_of_mem (List.mem_of_mem_take hd)
      have e : ds.getD i D.zero = ds[i] := by simp [List.getD, hi]
      have := (h.2.1 i hi).1
      rw [e] at this
      exact dBy_le this
  have h2 := join_size_le 1000 _ h1
  have h3 : (lP ds k).length ≤ 31 := by
    unfold lP
    simp only [List.length_append, List.length_cons, List.length_nil, List.length_map, List.length_take]
    have := h.1
    omega
  have := Nat.mul_le_mul_right 1000 h3
  omega
set_option maxRecDepth 100000 in
set_option maxHeartbeats 8000000 in
theorem impl_lb (ao : Option Addr) (cap : Nat) (ds : List D) (w : World) (hlen : ds.length ≤ 1048576) (hSm : ∀ d ∈ ds, d.Sm) (hwf : ∀ d ∈ ds, (Lit.int .i64 d.mo).wf = true) (hI : Dcs ao ds w) :
    Calls Try.prog 11 #[.slice ao ds.length cap] w fun e w' => e = .returned (.string (lbB ds)) ∧ Below w.heap.size w w' := by
  have H1 := hid_intro (impl_ledger ao cap ds w hlen hSm hwf hI)
  obtain ⟨i0, hi, hz0, hz1, hz2⟩ := info_parts infoS
  have HI := hid_intro hI
  have HT : Hid (lbB ds = bif lB ds then (bif decide ((lBy ds).size ≤ 8000) then lBy ds else ⟨#[]⟩) else ⟨#[]⟩) := rfl
  have HLR := hid_intro (fun h : lB ds = true => lB_iff.1 h)
  have HQM := hid_intro (fun k (h : k < ds.length) => lP_more ds k h)
  have HQS := hid_intro (fun h : LRight ds => lP_le h ds.length)
  have HQ0 : Hid (lP ds 0 = [numB (ds.length : Int)]) := hid_intro (by simp [lP])
  have HLB : Hid (lBy ds = joinB (lP ds ds.length)) := rfl
  have HDO := hid_intro (fun (h : LRight ds) i (hi : i < ds.length) => (h.2.1 i hi).1)
  have HD30 := hid_intro (fun (h : LRight ds) => h.1)
  generalize lP ds = Q at *
  generalize lBy ds = LB at *
  generalize lbB ds = T at *
  generalize lB ds = r at *
  obtain ⟨len, hl⟩ : ∃ len, len = ds.length := ⟨_, rfl⟩
  rw [← hl] at H1 HQM HQS HQ0 HLB HDO HD30 ⊢
  have HL := hid_intro hl
  clear hI hSm hwf hl hlen
  go_enter Try.func11, Try.ntmps11
  go_wp2_with fail
  refine H1.out.mono ?_
  rintro e w1 ⟨rfl, hb⟩
  have HB1 := hid_intro hb
  clear hb
  cases r
  · go_wp2_with fail
    go_ret
    exact ⟨ret_str (by rw [HT.out]; rfl), HB1.out⟩
  · have HR := hid_intro (HLR.out rfl)
    have h30 := HD30.out HR.out
    have P1 := hid_intro (fun w => NumR.impl_put (len : Int) w (by omega))
    generalize numB (len : Int) = T1 at *
    go_wp2_with fail
    refine (P1.out _).mono ?_
    rintro e w2 ⟨rfl, hb2⟩
    have HB2 := hid_intro (HB1.out.trans (hb2.mono HB1.out.size))
    clear hb2
    have HO0 : Hid ((w2.alloc (Obj.cells #[Value.string T1] 9)).ownsRow w.heap.size 9 1 (.slice (some ⟨w2.heap.size, 0, none⟩) 1 1) (1 + 0) ((Q 0).map Value.string)) := hid_intro (by
      rw [HQ0.out]
      exact ⟨by simp, .inr ⟨w2.heap.size, 1, #[.string T1], rfl, HB2.out.size, heap_alloc_new w2 _, by omega, by unfold maxLen; omega, by simp, by simp⟩⟩)
    have HB3 := hid_intro (HB2.out.alloc HB2.out.size (Obj.cells #[Value.string T1] 9))
    obtain ⟨W3, hW3⟩ : ∃ W3, W3 = w2.alloc (Obj.cells #[Value.string T1] 9) := ⟨_, rfl⟩
    rw [← hW3] at HO0 HB3
    have HW3 := hid_intro hW3
    clear hW3
    go_wp2_with fail
    rw [← HW3.out]
    go_loopw [3, 16] (fun v z wr => ∃ (j : Nat), j ≤ len ∧ z = .int .i64 j ∧ Hid (wr.ownsRow w.heap.size 9 1 v (1 + j) ((Q j).map Value.string)) ∧ Hid (v ≠ .slice none 0 0) ∧ Hid (Below w.heap.size w wr)) (fun v z _ => len - (intOf z).toNat)
    case atStart => exact ⟨0, by omega, rfl, HO0, hid_intro (by simp), HB3⟩
    case round =>
      clear HO0 HB3 HB2 HB1 HW3
      obtain ⟨j, hj, rfl, HO, HV, HB⟩ := hrel
      by_cases hlt : j < len
      · have hlt2 : (j : Int) < (len : Int) := by omega
        have hjl : j < ds.length := by have := HL.out; omega
        obtain ⟨b, off, la, lc, rfl, hbl, c0, c1, c2, c3, hLi⟩ := (HI.out.below HB.out).at j hjl
        have HDB := hid_intro (fun W (hW : Below wr.heap.size wr W) => idoc (ds.getD j D.zero) la lc W (HDO.out HR.out j hlt) (hLi.below hW))
        have HC1 := hid_intro (HQM.out j hlt)
        clear hLi
        generalize dBy (ds.getD j D.zero) = G at *
        generalize ds.getD j D.zero = X at *
        obtain ⟨xa, xm, xs, xl⟩ := X
        dsimp only at c0 c1 c2 c3 HDB
        generalize xl.length = ll at *
        go_wp2_with fail
        refine (HDB.out _ ((Below.refl _ _).alloc (Nat.le_refl _) _)).mono ?_
        rintro e w4 ⟨rfl, hb4⟩
        have HBR := hid_intro (bel_alloc hb4)
        have HO4 := hid_intro (own_below HO.out HBR.out)
        have HW4 := hid_intro (HB.out.trans (HBR.out.mono HB.out.size))
        clear hb4 c0 c1 c2 c3
        go_wp2_with (at_builtin; refine wpList_append_own _ rfl _ _ 61 rfl w.heap.size 9 i0 (.string ⟨#[]⟩) 1 16 Try.underlying61 hi hz0 hz1 hz2 rfl (by decide) _ _ _ rfl (HO4.out.alloc _) ⟨w4.heap.size, 0, none⟩ 1 1 [.string G] rfl rfl (DocR.one_cell _ _ _) (DocR.one_one _) ?d3 ?d4 ?d5 ?_)
        case d3 => unfold maxLen; omega
        case d4 => omega
        case d5 => have h1 := HW4.out.size; simp; omega
        intro v' w5 hown hgrow hne
        have HO5 : Hid (w5.ownsRow w.heap.size 9 1 v' (1 + (j + 1)) ((Q (j + 1)).map Value.string)) := hid_intro (by rw [HC1.out, List.map_append, ← Nat.add_assoc]; exact hown)
        have HV5 : Hid (v' ≠ .slice none 0 0) := hid_intro (by first | exact hne | exact fun h => HV.out (hne.1 h).1)
        have HB5 : Hid (Below w.heap.size w w5) := hid_intro ((HW4.out.alloc HW4.out.size _).grown hgrow (HW4.out.alloc HW4.out.size _).size (fun k e => by have := (HO.out.lt k e).1; omega))
        clear hown hgrow hne
        go_wp2_with fail
        go_roundw
        case rel => exact ⟨j + 1, by omega, by go_num, HO5, HV5, HB5⟩
        case measure => simp [intOf]; omega
      · obtain rfl : j = len := by omega
        obtain ⟨q, cap', rfl, hg, hn, hcap, hcell⟩ := own_texts HO.out HV.out
        have hqs := HQS.out HR.out
        have hj2 := JoinR.join_len (Q j) q cap' _ (by omega) (by omega) hg hcell (by rw [jl_size]; omega)
        rw [hn] at hj2
        have HJ2 := hid_intro hj2
        rw [← HLB.out] at HJ2
        clear hj2 hcell
        have hls : LB.size ≤ 40000 := by rw [HLB.out]; exact hqs
        go_wp2_with fail
        refine HJ2.out.mono ?_
        rintro e w6 ⟨rfl, hb⟩
        have HB6 := hid_intro (HB.out.trans (hb.mono HB.out.size))
        clear hb
        by_cases hz : LB.size ≤ 8000
        · have hz2 : ¬ (8000 : Int) < (LB.size : Int) := by omega
          go_wp2_with fail
          go_ret
          exact ⟨ret_str (by rw [HT.out, decide_eq_true hz]; rfl), HB6.out⟩
        · have hz2 : (8000 : Int) < (LB.size : Int) := by omega
          go_wp2_with fail
          go_ret
          exact ⟨ret_str (by rw [HT.out, decide_eq_false hz]; rfl), HB6.out⟩
/-- A document's own block, as the regions read it. -/
def DBz (w : World) (B : Nat) (a : ByteArray) (mo sq : Int) (la : Option Addr) (ll lc : Nat) (W : World) : Prop := Below w.heap.size w W ∧ B < W.heap.size ∧ W.cell? ⟨B, 0, none⟩ = some (.string a) ∧ W.cell? ⟨B, 1, none⟩ = some (.int .i64 mo) ∧ W.cell? ⟨B, 2, none⟩ = some (.int .i64 sq) ∧ W.cell? ⟨B, 3, none⟩ = some (.slice la ll lc)
theorem DBz.below {w : World} {B : Nat} {a : ByteArray} {mo sq : Int} {la : Option Addr} {ll lc : Nat} {W W' : World} (h : DBz w B a mo sq la ll lc W) (hb : Below W.heap.size W W') : DBz w B a mo sq la ll lc W' := by
  obtain ⟨h0, h1, c0, c1, c2, c3⟩ := h
  have c := fun o => hb.cell (p := ⟨B, o, none⟩) h1
  have := hb.size
  exact ⟨h0.trans (hb.mono h0.size), by omega, (c 0).trans c0, (c 1).trans c1, (c 2).trans c2, (c 3).trans c3⟩
/-- What is held while a line of a list is put: the list's own cell, and the line's two. -/
def BU (w : World) (B : Nat) (x : Value) (b f : Nat) (a0 a1 : Value) (W : World) : Prop := Below w.heap.size w W ∧ B < W.heap.size ∧ b < W.heap.size ∧ W.cell? ⟨B, 3, none⟩ = some x ∧ W.cell? ⟨b, f, none⟩ = some a0 ∧ W.cell? ⟨b, f + 1, none⟩ = some a1
theorem BU.below {w : World} {B : Nat} {x : Value} {b f : Nat} {a0 a1 : Value} {W W' : World} (h : BU w B x b f a0 a1 W) (hb : Below W.heap.size W W') : BU w B x b f a0 a1 W' := by
  obtain ⟨h0, l1, l2, p0, p1, p2⟩ := h
  have g1 := fun o => hb.cell (p := ⟨B, o, none⟩) l1
  have g2 := fun o => hb.cell (p := ⟨b, o, none⟩) l2
  have hs := hb.size
  exact ⟨h0.trans (hb.mono h0.size), by omega, by omega, (g1 _).trans p0, (g2 _).trans p1, (g2 _).trans p2⟩
theorem app_four (T a b c d : ByteArray) : T ++ a ++ b ++ c ++ d = T ++ joinB [a, b, c, d] := by
  rw [show [a, b, c, d] = [a, b] ++ [c, d] from rfl, joinB_app, joinB_two, joinB_two]
  simp only [ByteArray.append_assoc]
theorem app_in (T X a b : ByteArray) (l : List ByteArray) (h : X = T ++ joinB l) : X ++ a ++ b = T ++ joinB (l ++ [a, b]) := by
  rw [joinB_app, joinB_two, h, ByteArray.append_assoc, ByteArray.append_assoc]
set_option maxRecDepth 100000 in
set_option maxHeartbeats 16000000 in
theorem spec_lb (ao : Option Addr) (cap : Nat) (ds : List D) (w : World) (hlen : ds.length ≤ 1048576) (hSm : ∀ d ∈ ds, d.Sm) (hI : Dcs ao ds w) :
    Calls Try.prog 13 #[.slice ao ds.length cap] w fun e w' => e = .returned (.string (lbB ds)) ∧ Below w.heap.size w w' := by
  have H1 := hid_intro (spec_ledger ao cap ds w hlen hSm hI)
  have HI := hid_intro hI
  have HT : Hid (lbB ds = bif lB ds then (bif decide ((lBy ds).size ≤ 8000) then lBy ds else ⟨#[]⟩) else ⟨#[]⟩) := rfl
  have HLR := hid_intro (fun h : lB ds = true => lB_iff.1 h)
  have HLA : Hid (400 < ds.length → lB ds = false) := hid_intro (fun h => lB_no (fun hr => by have := hr.1; omega))
  have HQM : Hid (∀ k, k < ds.length → joinB (lP ds (k + 1)) = joinB (lP ds k) ++ dBy (ds.getD k D.zero)) := hid_intro (fun k h => by rw [lP_more ds k h, joinB_app, joinB_one])
  have HQS := hid_intro (fun (h : LRight ds) k => lP_le h k)
  have HQ0 : Hid (joinB (lP ds 0) = numB (ds.length : Int)) := hid_intro (by simp [lP, joinB_one])
  have HLB : Hid (lBy ds = joinB (lP ds ds.length)) := rfl
  have HDO := hid_intro (fun (h : LRight ds) i (hi : i < ds.length) => (h.2.1 i hi).1)
  have HD30 := hid_intro (fun (h : LRight ds) => h.1)
  obtain ⟨J, hJ⟩ : ∃ J : Nat → ByteArray, ∀ k, J k = joinB (lP ds k) := ⟨_, fun _ => rfl⟩
  have HQM : Hid (∀ k, k < ds.length → J (k + 1) = J k ++ dBy (ds.getD k D.zero)) := hid_intro (fun k h => by rw [hJ, hJ]; exact HQM.out k h)
  have HQS : Hid (∀ (h : LRight ds) k, (J k).size ≤ 40000) := hid_intro (fun h k => by rw [hJ]; exact HQS.out h k)
  have HQ0 : Hid (J 0 = numB (ds.length : Int)) := hid_intro (by rw [hJ]; exact HQ0.out)
  have HLB : Hid (lBy ds = J ds.length) := hid_intro (by rw [hJ]; exact HLB.out)
  clear hJ
  generalize lBy ds = LB at *
  generalize lbB ds = T at *
  generalize lB ds = r at *
  obtain ⟨len, hl⟩ : ∃ len, len = ds.length := ⟨_, rfl⟩
  rw [← hl] at H1 HQM HQ0 HLB HDO HD30 HLA ⊢
  have HL := hid_intro hl
  clear hI hSm hl hlen
  by_cases qa : 400 < len
  · have qa2 : (400 : Int) < (len : Int) := by omega
    have HE : Hid (T = ⟨#[]⟩) := hid_intro (by rw [HT.out, HLA.out qa]; rfl)
    go_enter Try.func13, Try.ntmps13
    go_wp2_with fail
    go_ret
    exact ⟨ret_str HE.out.symm, Below.refl _ _⟩
  have qa2 : ¬ (400 : Int) < (len : Int) := by omega
  cases r
  · have HE : Hid (T = ⟨#[]⟩) := HT
    go_enter Try.func13, Try.ntmps13
    go_wp2_with fail
    refine H1.out.mono ?_
    rintro e w1 ⟨rfl, hb⟩
    have HB1 := hid_intro hb
    clear hb
    go_wp2_with fail
    go_ret
    exact ⟨ret_str HE.out.symm, HB1.out⟩
  have HR := hid_intro (HLR.out rfl)
  have h30 := HD30.out HR.out
  have P1 := hid_intro (fun w => NumR.spec_put (len : Int) w (by omega))
  generalize numB (len : Int) = T1 at *
  go_enter Try.func13, Try.ntmps13
  go_wp2_with fail
  refine H1.out.mono ?_
  rintro e w1 ⟨rfl, hb⟩
  have HB1 := hid_intro hb
  clear hb
  go_wp2_with fail
  refine (P1.out _).mono ?_
  rintro e w2 ⟨rfl, hb2⟩
  have HB2 := hid_intro (HB1.out.trans (hb2.mono HB1.out.size))
  clear hb2
  go_wp2_with fail
  go_loopw [3, 4] (fun x z wr => ∃ (j : Nat) (Y : ByteArray), j ≤ len ∧ x = .string Y ∧ z = .int .i64 j ∧ Hid (Y = J j) ∧ Hid (Below w.heap.size w wr)) (fun x z _ => len - (intOf z).toNat)
  case atStart => exact ⟨0, T1, by omega, rfl, rfl, hid_intro HQ0.out.symm, HB2⟩
  case round =>
    clear HB2 HB1
    obtain ⟨j, Y, hj, rfl, rfl, HY, HB⟩ := hrel
    have hYs : Y.size ≤ 40000 := by rw [HY.out]; exact HQS.out HR.out j
    by_cases hlt : j < len
    · obtain ⟨Wo, hWo⟩ : ∃ Wo, Wo = wr := ⟨_, rfl⟩
      subst hWo
      have hlt2 : (j : Int) < (len : Int) := by omega
      have hjl : j < ds.length := by have := HL.out; omega
      obtain ⟨b, off, la, lc, rfl, hbl, c0, c1, c2, c3, hLi⟩ := HI.out.at j hjl
      have hcl := fun x => HB.out.cell (p := ⟨b, x, none⟩) hbl
      replace c0 := (hcl _).trans c0
      replace c1 := (hcl _).trans c1
      replace c2 := (hcl _).trans c2
      replace c3 := (hcl _).trans c3
      replace hbl : b < Wo.heap.size := by have := HB.out.size; omega
      clear hcl
      have hdb := HDO.out HR.out j hlt
      have HC1 := hid_intro (HQM.out j hlt)
      generalize ds.getD j D.zero = X at *
      obtain ⟨b1, b2, b3, b4, b5⟩ := doc_bd hdb
      have HQM2 := hid_intro (fun k (h : k < X.ls.length) => bP_more X k h)
      have HQS2 := hid_intro (fun k (h : k ≤ X.ls.length) => bP_le hdb k h)
      have HRR2 : Hid (dBy X = joinB (bP X X.ls.length)) := rfl
      have HQ02 : Hid (bP X 0 = [txB X.a, numB X.mo, numB X.sq, numB X.ls.length]) := hid_intro (by simp [bP])
      generalize bP X = Q at *
      generalize dBy X = G at *
      obtain ⟨a, mo, sq, ls⟩ := X
      dsimp only at *
      have HLi := hid_intro hLi
      have S9 := hid_intro b5
      have S1 := hid_intro (fun w => PutTextL.spec_text a w (by omega))
      have S2 := hid_intro (fun w => NumR.spec_put mo w (by omega))
      have S3 := hid_intro (fun w => NumR.spec_put sq w (by omega))
      obtain ⟨ll, hll⟩ : ∃ ll, ll = ls.length := ⟨_, rfl⟩
      rw [← hll] at b4 HQM2 HQS2 HRR2 HQ02 c3
      have HLL := hid_intro hll
      have S4 := hid_intro (fun w => NumR.spec_put ((ll : Nat) : Int) w (by omega))
      have z1 : (txB a).size ≤ 40 := txt_le b1
      have z2 : (numB mo).size ≤ 40 := num_le (by omega) (by omega)
      have z3 : (numB sq).size ≤ 40 := num_le (by omega) (by omega)
      have z4 : (numB ((ll : Nat) : Int)).size ≤ 40 := num_le (by omega) (by omega)
      have HQ02 : Hid (Q 0 = [numB (a.size : Int) ++ a, numB mo, numB sq, numB (ll : Int)]) := HQ02
      have z1 : (numB (a.size : Int) ++ a).size ≤ 40 := z1
      clear hLi b5 hll hdb b1 b2 b3
      generalize numB (a.size : Int) ++ a = X1 at *
      generalize numB mo = X2 at *
      generalize numB sq = X3 at *
      generalize numB (ll : Int) = X4 at *
      have v1 : ¬ 9223372036854775807 < Y.size + X1.size := by omega
      have v2 : ¬ 9223372036854775807 < Y.size + X1.size + X2.size := by omega
      have v3 : ¬ 9223372036854775807 < Y.size + X1.size + X2.size + X3.size := by omega
      have v4 : ¬ 9223372036854775807 < Y.size + X1.size + X2.size + X3.size + X4.size := by omega
      have HS0 : Hid (DBz w Wo.heap.size a mo sq la ll lc (Wo.alloc (.cells #[.string a, .int .i64 mo, .int .i64 sq, .slice la ll lc] 25)).drew) := hid_intro ⟨((HB.out).alloc HB.out.size _).drew, by simp, by simp [go_sem], by simp [go_sem], by simp [go_sem], by simp [go_sem]⟩
      go_wp2_with fail
      refine wp_region_held_drew (S := (fun W => Below w.heap.size w W ∧ Wo.heap.size < W.heap.size ∧ W.cell? ⟨Wo.heap.size, 0, none⟩ = some (.string a) ∧ W.cell? ⟨Wo.heap.size, 1, none⟩ = some (.int .i64 mo) ∧ W.cell? ⟨Wo.heap.size, 2, none⟩ = some (.int .i64 sq) ∧ W.cell? ⟨Wo.heap.size, 3, none⟩ = some (.slice la ll lc))) (by kernel_rfl) HS0.out (fun hHeld => ?_)
      refine wpAnyH_take (i := 0) (oi := { dst := some 28, op := Op.move (Operand.tmp 3), type := 9, pos := "l09_ledger.go:179", after := #[], guard := none }) (v := ?_) rfl (by kernel_rfl) (by kernel_rfl) (by kernel_rfl) (fun _ _ _ h => h) (Or.inl ⟨by rfl, ?_⟩) (by assumption) ?_
      rotate_left
      · (intro w hSw; (try dsimp only at hSw); go_simp) <;> with_reducible rfl
      try simp only [Act.put, List.setIfInBounds_toArray, List.set_cons_zero, List.set_cons_succ]
      refine wpAnyH_take (i := 1) (oi := { dst := some 29, op := Op.fieldAddr 25 (Operand.tmp 5) 0, type := 0, pos := "l09_ledger.go:179", after := #[], guard := none }) (v := ?_) rfl (by kernel_rfl) (by kernel_rfl) (by kernel_rfl) (fun _ _ _ h => h) (Or.inl ⟨by rfl, ?_⟩) (by assumption) ?_
      rotate_left
      · (intro w hSw; (try dsimp only at hSw); go_simp) <;> with_reducible rfl
      try simp only [Act.put, List.setIfInBounds_toArray, List.set_cons_zero, List.set_cons_succ]
      refine wpAnyH_take (i := 2) (oi := { dst := some 30, op := Op.load 9 (Operand.tmp 29), type := 9, pos := "l09_ledger.go:179", after := #[{ on := 1, ground := Ground.data }], guard := none }) (v := ?_) rfl (by kernel_rfl) (by kernel_rfl) (by kernel_rfl) (fun _ _ _ h => h) (Or.inl ⟨by rfl, ?_⟩) (by assumption) ?_
      rotate_left
      · (intro w hSw; (try dsimp only at hSw); go_simp) <;> with_reducible rfl
      try simp only [Act.put, List.setIfInBounds_toArray, List.set_cons_zero, List.set_cons_succ]
      refine wpAnyH_take (i := 5) (oi := { dst := some 33, op := Op.fieldAddr 25 (Operand.tmp 5) 1, type := 0, pos := "l09_ledger.go:179", after := #[], guard := none }) (v := ?_) rfl (by kernel_rfl) (by kernel_rfl) (by kernel_rfl) (fun _ _ _ h => h) (Or.inl ⟨by rfl, ?_⟩) (by assumption) ?_
      rotate_left
      · (intro w hSw; (try dsimp only at hSw); go_simp) <;> with_reducible rfl
      try simp only [Act.put, List.setIfInBounds_toArray, List.set_cons_zero, List.set_cons_succ]
      refine wpAnyH_take (i := 6) (oi := { dst := some 34, op := Op.load 2 (Operand.tmp 33), type := 2, pos := "l09_ledger.go:179", after := #[{ on := 5, ground := Ground.data }], guard := none }) (v := ?_) rfl (by kernel_rfl) (by kernel_rfl) (by kernel_rfl) (fun _ _ _ h => h) (Or.inl ⟨by rfl, ?_⟩) (by assumption) ?_
      rotate_left
      · (intro w hSw; (try dsimp only at hSw); go_simp) <;> with_reducible rfl
      try simp only [Act.put, List.setIfInBounds_toArray, List.set_cons_zero, List.set_cons_succ]
      refine wpAnyH_take (i := 9) (oi := { dst := some 37, op := Op.fieldAddr 25 (Operand.tmp 5) 2, type := 0, pos := "l09_ledger.go:179", after := #[], guard := none }) (v := ?_) rfl (by kernel_rfl) (by kernel_rfl) (by kernel_rfl) (fun _ _ _ h => h) (Or.inl ⟨by rfl, ?_⟩) (by assumption) ?_
      rotate_left
      · (intro w hSw; (try dsimp only at hSw); go_simp) <;> with_reducible rfl
      try simp only [Act.put, List.setIfInBounds_toArray, List.set_cons_zero, List.set_cons_succ]
      refine wpAnyH_take (i := 10) (oi := { dst := some 38, op := Op.load 2 (Operand.tmp 37), type := 2, pos := "l09_ledger.go:179", after := #[{ on := 9, ground := Ground.data }], guard := none }) (v := ?_) rfl (by kernel_rfl) (by kernel_rfl) (by kernel_rfl) (fun _ _ _ h => h) (Or.inl ⟨by rfl, ?_⟩) (by assumption) ?_
      rotate_left
      · (intro w hSw; (try dsimp only at hSw); go_simp) <;> with_reducible rfl
      try simp only [Act.put, List.setIfInBounds_toArray, List.set_cons_zero, List.set_cons_succ]
      refine wpAnyH_take (i := 13) (oi := { dst := some 41, op := Op.fieldAddr 25 (Operand.tmp 5) 3, type := 0, pos := "l09_ledger.go:179", after := #[], guard := none }) (v := ?_) rfl (by kernel_rfl) (by kernel_rfl) (by kernel_rfl) (fun _ _ _ h => h) (Or.inl ⟨by rfl, ?_⟩) (by assumption) ?_
      rotate_left
      · (intro w hSw; (try dsimp only at hSw); go_simp) <;> with_reducible rfl
      try simp only [Act.put, List.setIfInBounds_toArray, List.set_cons_zero, List.set_cons_succ]
      refine wpAnyH_take (i := 14) (oi := { dst := some 42, op := Op.load 23 (Operand.tmp 41), type := 23, pos := "l09_ledger.go:179", after := #[{ on := 13, ground := Ground.data }], guard := none }) (v := ?_) rfl (by kernel_rfl) (by kernel_rfl) (by kernel_rfl) (fun _ _ _ h => h) (Or.inl ⟨by rfl, ?_⟩) (by assumption) ?_
      rotate_left
      · (intro w hSw; (try dsimp only at hSw); go_simp) <;> with_reducible rfl
      try simp only [Act.put, List.setIfInBounds_toArray, List.set_cons_zero, List.set_cons_succ]
      refine wpAnyH_take (i := 15) (oi := { dst := some 43, op := Op.call { callee := Callee.builtin Builtin.len, args := #[Operand.tmp 42], argTypes := #[23] }, type := 3, pos := "l09_ledger.go:179", after := #[{ on := 14, ground := Ground.data }], guard := none }) (v := ?_) rfl (by kernel_rfl) (by kernel_rfl) (by kernel_rfl) (fun _ _ _ h => h) (Or.inl ⟨by rfl, ?_⟩) (by assumption) ?_
      rotate_left
      · (intro w hSw; (try dsimp only at hSw); go_simp) <;> with_reducible rfl
      try simp only [Act.put, List.setIfInBounds_toArray, List.set_cons_zero, List.set_cons_succ]
      refine wpAnyH_ready (rs := [3]) (by kernel_rfl) (by simp) ?_
      refine AllReadyH.cons (o := { dst := some 31, op := Op.call { callee := Callee.value (Operand.func 38), args := #[Operand.tmp 30], argTypes := #[9] }, type := 9, pos := "l09_ledger.go:179", after := #[{ on := 2, ground := Ground.data }], guard := none }) rfl (fun K hK => ?_) AllReadyH.nil
      go_simp
      go_at_call 38
      refine (S1.out _).mono ?_
      rintro e q1 ⟨rfl, hq1⟩
      try go_wp2_with fail
      have hk1 := DBz.below (w := w) (B := Wo.heap.size) (a := a) (mo := mo) (sq := sq) (la := la) (ll := ll) (lc := lc) HS0.out hq1
      refine hK.out _ _ hk1 (fun _ => ?_)
      clear hK K
      try simp only [Act.put, List.setIfInBounds_toArray, List.set_cons_zero, List.set_cons_succ]
      refine wpAnyH_take (i := 4) (oi := { dst := some 32, op := Op.binOp BinOp.add 9 (Operand.tmp 28) (Operand.tmp 31) 9, type := 9, pos := "l09_ledger.go:179", after := #[{ on := 0, ground := Ground.data }, { on := 3, ground := Ground.data }], guard := none }) (v := ?_) rfl (by kernel_rfl) (by kernel_rfl) (by kernel_rfl) (fun _ _ _ h => h) (Or.inl ⟨by rfl, ?_⟩) (by assumption) ?_
      rotate_left
      · (intro w hSw; (try dsimp only at hSw); go_simp) <;> with_reducible rfl
      try simp only [Act.put, List.setIfInBounds_toArray, List.set_cons_zero, List.set_cons_succ]
      refine wpAnyH_ready (rs := [7]) (by kernel_rfl) (by simp) ?_
      refine AllReadyH.cons (o := { dst := some 35, op := Op.call { callee := Callee.value (Operand.func 37), args := #[Operand.tmp 34], argTypes := #[2] }, type := 9, pos := "l09_ledger.go:179", after := #[{ on := 6, ground := Ground.data }, { on := 3, ground := Ground.chain }], guard := none }) rfl (fun K hK => ?_) AllReadyH.nil
      go_simp
      go_at_call 37
      refine (S2.out _).mono ?_
      rintro e q2 ⟨rfl, hq2⟩
      try go_wp2_with fail
      have hk2 := DBz.below (w := w) (B := Wo.heap.size) (a := a) (mo := mo) (sq := sq) (la := la) (ll := ll) (lc := lc) hk1 hq2
      refine hK.out _ _ hk2 (fun _ => ?_)
      clear hK K
      try simp only [Act.put, List.setIfInBounds_toArray, List.set_cons_zero, List.set_cons_succ]
      refine wpAnyH_take (i := 8) (oi := { dst := some 36, op := Op.binOp BinOp.add 9 (Operand.tmp 32) (Operand.tmp 35) 9, type := 9, pos := "l09_ledger.go:179", after := #[{ on := 4, ground := Ground.data }, { on := 7, ground := Ground.data }], guard := none }) (v := ?_) rfl (by kernel_rfl) (by kernel_rfl) (by kernel_rfl) (fun _ _ _ h => h) (Or.inl ⟨by rfl, ?_⟩) (by assumption) ?_
      rotate_left
      · (intro w hSw; (try dsimp only at hSw); go_simp) <;> with_reducible rfl
      try simp only [Act.put, List.setIfInBounds_toArray, List.set_cons_zero, List.set_cons_succ]
      refine wpAnyH_ready (rs := [11]) (by kernel_rfl) (by simp) ?_
      refine AllReadyH.cons (o := { dst := some 39, op := Op.call { callee := Callee.value (Operand.func 37), args := #[Operand.tmp 38], argTypes := #[2] }, type := 9, pos := "l09_ledger.go:179", after := #[{ on := 10, ground := Ground.data }, { on := 7, ground := Ground.chain }], guard := none }) rfl (fun K hK => ?_) AllReadyH.nil
      go_simp
      go_at_call 37
      refine (S3.out _).mono ?_
      rintro e q3 ⟨rfl, hq3⟩
      try go_wp2_with fail
      have hk3 := DBz.below (w := w) (B := Wo.heap.size) (a := a) (mo := mo) (sq := sq) (la := la) (ll := ll) (lc := lc) hk2 hq3
      refine hK.out _ _ hk3 (fun _ => ?_)
      clear hK K
      try simp only [Act.put, List.setIfInBounds_toArray, List.set_cons_zero, List.set_cons_succ]
      refine wpAnyH_take (i := 12) (oi := { dst := some 40, op := Op.binOp BinOp.add 9 (Operand.tmp 36) (Operand.tmp 39) 9, type := 9, pos := "l09_ledger.go:179", after := #[{ on := 8, ground := Ground.data }, { on := 11, ground := Ground.data }], guard := none }) (v := ?_) rfl (by kernel_rfl) (by kernel_rfl) (by kernel_rfl) (fun _ _ _ h => h) (Or.inl ⟨by rfl, ?_⟩) (by assumption) ?_
      rotate_left
      · (intro w hSw; (try dsimp only at hSw); go_simp) <;> with_reducible rfl
      try simp only [Act.put, List.setIfInBounds_toArray, List.set_cons_zero, List.set_cons_succ]
      refine wpAnyH_ready (rs := [16]) (by kernel_rfl) (by simp) ?_
      refine AllReadyH.cons (o := { dst := some 44, op := Op.call { callee := Callee.value (Operand.func 37), args := #[Operand.tmp 43], argTypes := #[2] }, type := 9, pos := "l09_ledger.go:179", after := #[{ on := 15, ground := Ground.data }, { on := 11, ground := Ground.chain }], guard := none }) rfl (fun K hK => ?_) AllReadyH.nil
      go_simp
      go_at_call 37
      refine (S4.out _).mono ?_
      rintro e q4 ⟨rfl, hq4⟩
      try go_wp2_with fail
      have hk4 := DBz.below (w := w) (B := Wo.heap.size) (a := a) (mo := mo) (sq := sq) (la := la) (ll := ll) (lc := lc) hk3 hq4
      refine hK.out _ _ hk4 (fun _ => ?_)
      clear hK K
      try simp only [Act.put, List.setIfInBounds_toArray, List.set_cons_zero, List.set_cons_succ]
      refine wpAnyH_take (i := 17) (oi := { dst := some 45, op := Op.binOp BinOp.add 9 (Operand.tmp 40) (Operand.tmp 44) 9, type := 9, pos := "l09_ledger.go:179", after := #[{ on := 12, ground := Ground.data }, { on := 16, ground := Ground.data }], guard := none }) (v := ?_) rfl (by kernel_rfl) (by kernel_rfl) (by kernel_rfl) (fun _ _ _ h => h) (Or.inl ⟨by rfl, ?_⟩) (by assumption) ?_
      rotate_left
      · (intro w hSw; (try dsimp only at hSw); go_simp) <;> with_reducible rfl
      try simp only [Act.put, List.setIfInBounds_toArray, List.set_cons_zero, List.set_cons_succ]
      refine wpAnyH_take (i := 18) (oi := { dst := some 3, op := Op.assign (Operand.tmp 45), type := 9, pos := "l09_ledger.go:179", after := #[{ on := 17, ground := Ground.data }, { on := 16, ground := Ground.chain }, { on := 0, ground := Ground.phase }, { on := 1, ground := Ground.phase }, { on := 2, ground := Ground.phase }, { on := 3, ground := Ground.phase }, { on := 4, ground := Ground.phase }, { on := 5, ground := Ground.phase }, { on := 6, ground := Ground.phase }, { on := 7, ground := Ground.phase }, { on := 8, ground := Ground.phase }, { on := 9, ground := Ground.phase }, { on := 10, ground := Ground.phase }, { on := 11, ground := Ground.phase }, { on := 12, ground := Ground.phase }, { on := 13, ground := Ground.phase }, { on := 14, ground := Ground.phase }, { on := 15, ground := Ground.phase }, { on := 16, ground := Ground.phase }, { on := 17, ground := Ground.phase }], guard := none }) (v := ?_) rfl (by kernel_rfl) (by kernel_rfl) (by kernel_rfl) (fun _ _ _ h => h) (Or.inl ⟨by rfl, ?_⟩) (by assumption) ?_
      rotate_left
      · (intro w hSw; (try dsimp only at hSw); go_simp) <;> with_reducible rfl
      try simp only [Act.put, List.setIfInBounds_toArray, List.set_cons_zero, List.set_cons_succ]
      refine wpAnyH_done (by kernel_rfl) ?_ _
      have HB1 := hid_intro hk4.1
      have HX1 := hid_intro hk4
      clear hk1 hk2 hk3 hk4 hq1 hq2 hq3 hq4 HS0 v1 v2 v3 v4
      have HI0 : Hid (Y ++ X1 ++ X2 ++ X3 ++ X4 = Y ++ joinB (Q 0)) := hid_intro (by rw [HQ02.out]; exact app_four _ _ _ _ _)
      have hz5 : (Y ++ X1 ++ X2 ++ X3 ++ X4).size ≤ 41000 := by simp only [ByteArray.size_append]; omega
      obtain ⟨B, hB⟩ : ∃ B, B = Wo.heap.size := ⟨_, rfl⟩
      rw [← hB] at HX1 ⊢
      generalize Y ++ X1 ++ X2 ++ X3 ++ X4 = Z0 at *
      clear hB HQ02 z1 z2 z3 z4 c0 c1 c2 c3
      have x3 := HX1.out.2.2.2.2.2
      have xl := HX1.out.2.1
      go_wp2_with fail
      go_loopw [3, 6] (fun x z wx => ∃ (i : Nat) (Z : ByteArray), i ≤ ll ∧ x = .string Z ∧ z = .int .i64 i ∧ Hid (Z = Y ++ joinB (Q i)) ∧ Hid (Below w.heap.size w wx) ∧ Hid (DBz w B a mo sq la ll lc wx)) (fun x z _ => ll - (intOf z).toNat)
      case atStart => exact ⟨0, Z0, by omega, rfl, rfl, HI0, HB1, HX1⟩
      case round =>
        clear HB1 HX1 HI0 xl x3 hz5
        obtain ⟨i, Z, hi2, rfl, rfl, HZ, HBx, HXd⟩ := hrel
        have x3 := HXd.out.2.2.2.2.2
        have xl := HXd.out.2.1
        have hZs : Z.size ≤ 42000 := by rw [HZ.out, ByteArray.size_append]; have := HQS2.out i hi2; omega
        by_cases hlt3 : i < ll
        · have hlt4 : (i : Int) < (ll : Int) := by omega
          have hil : i < ls.length := by have := HLL.out; omega
          obtain ⟨b2, off2, rfl, hbl2, d0, d1⟩ := (HLi.out.below HBx.out).at i hil
          have u1 := S9.out _ (getD_mem (z := N.zero) ls i hil)
          have HC2 := hid_intro (HQM2.out i hlt3)
          generalize ls.getD i N.zero = V at *
          obtain ⟨U, P⟩ := V
          dsimp only at d0 d1 u1 HC2
          obtain ⟨u2, u3, u4⟩ := u1
          have Q1 := hid_intro (fun w => PutTextL.spec_text U w (by omega))
          have Q2 := hid_intro (fun w => NumR.spec_put P w (by omega))
          have HC2 : Hid (Q (i + 1) = Q i ++ [numB (U.size : Int) ++ U, numB P]) := HC2
          have y1 : (numB (U.size : Int) ++ U).size ≤ 40 := txt_le u2
          have y2 : (numB P).size ≤ 40 := num_le u3 u4
          generalize numB (U.size : Int) ++ U = X5 at *
          generalize numB P = X6 at *
          clear u2 u3 u4
          have v1 : ¬ 9223372036854775807 < Z.size + X5.size := by omega
          have v2 : ¬ 9223372036854775807 < Z.size + X5.size + X6.size := by omega
          have HXr : Hid (DBz w B a mo sq (some ⟨b2, off2, none⟩) ll lc wr.drew) := hid_intro ⟨HXd.out.1.drew, HXd.out.2⟩
          have HU0 : Hid (BU w B (.slice (some ⟨b2, off2, none⟩) ll lc) b2 (off2 + i * 2) (.string U) (.int .i64 P) wr.drew) := hid_intro ⟨HBx.out.drew, xl, hbl2, x3, d0, d1⟩
          go_wp2_with fail
          refine wp_region_held_drew (S := (fun W => Below w.heap.size w W ∧ B < W.heap.size ∧ b2 < W.heap.size ∧ W.cell? ⟨B, 3, none⟩ = some (.slice (some ⟨b2, off2, none⟩) ll lc) ∧ W.cell? ⟨b2, off2 + i * 2, none⟩ = some (.string U) ∧ W.cell? ⟨b2, off2 + i * 2 + 1, none⟩ = some (.int .i64 P))) (by kernel_rfl) HU0.out (fun hHeld => ?_)
          refine wpAnyH_take (i := 0) (oi := { dst := some 53, op := Op.move (Operand.tmp 3), type := 9, pos := "l09_ledger.go:181", after := #[], guard := none }) (v := ?_) rfl (by kernel_rfl) (by kernel_rfl) (by kernel_rfl) (fun _ _ _ h => h) (Or.inl ⟨by rfl, ?_⟩) (by assumption) ?_
          rotate_left
          · (intro w hSw; (try dsimp only at hSw); go_simp) <;> with_reducible rfl
          try simp only [Act.put, List.setIfInBounds_toArray, List.set_cons_zero, List.set_cons_succ]
          refine wpAnyH_take (i := 1) (oi := { dst := some 54, op := Op.fieldAddr 25 (Operand.tmp 5) 3, type := 0, pos := "l09_ledger.go:181", after := #[], guard := none }) (v := ?_) rfl (by kernel_rfl) (by kernel_rfl) (by kernel_rfl) (fun _ _ _ h => h) (Or.inl ⟨by rfl, ?_⟩) (by assumption) ?_
          rotate_left
          · (intro w hSw; (try dsimp only at hSw); go_simp) <;> with_reducible rfl
          try simp only [Act.put, List.setIfInBounds_toArray, List.set_cons_zero, List.set_cons_succ]
          refine wpAnyH_take (i := 2) (oi := { dst := some 55, op := Op.load 23 (Operand.tmp 54), type := 23, pos := "l09_ledger.go:181", after := #[{ on := 1, ground := Ground.data }], guard := none }) (v := ?_) rfl (by kernel_rfl) (by kernel_rfl) (by kernel_rfl) (fun _ _ _ h => h) (Or.inl ⟨by rfl, ?_⟩) (by assumption) ?_
          rotate_left
          · (intro w hSw; (try dsimp only at hSw); go_simp) <;> with_reducible rfl
          try simp only [Act.put, List.setIfInBounds_toArray, List.set_cons_zero, List.set_cons_succ]
          refine wpAnyH_take (i := 3) (oi := { dst := some 56, op := Op.move (Operand.tmp 6), type := 3, pos := "l09_ledger.go:181", after := #[], guard := none }) (v := ?_) rfl (by kernel_rfl) (by kernel_rfl) (by kernel_rfl) (fun _ _ _ h => h) (Or.inl ⟨by rfl, ?_⟩) (by assumption) ?_
          rotate_left
          · (intro w hSw; (try dsimp only at hSw); go_simp) <;> with_reducible rfl
          try simp only [Act.put, List.setIfInBounds_toArray, List.set_cons_zero, List.set_cons_succ]
          refine wpAnyH_take (i := 4) (oi := { dst := some 57, op := Op.indexAddr 23 (Operand.tmp 55) (Operand.tmp 56), type := 0, pos := "l09_ledger.go:181", after := #[{ on := 2, ground := Ground.data }, { on := 3, ground := Ground.data }], guard := none }) (v := ?_) rfl (by kernel_rfl) (by kernel_rfl) (by kernel_rfl) (fun _ _ _ h => h) (Or.inl ⟨by rfl, ?_⟩) (by assumption) ?_
          rotate_left
          · (intro w hSw; (try dsimp only at hSw); go_simp) <;> with_reducible rfl
          try simp only [Act.put, List.setIfInBounds_toArray, List.set_cons_zero, List.set_cons_succ]
          refine wpAnyH_take (i := 5) (oi := { dst := some 58, op := Op.fieldAddr 45 (Operand.tmp 57) 0, type := 0, pos := "l09_ledger.go:181", after := #[{ on := 4, ground := Ground.data }], guard := none }) (v := ?_) rfl (by kernel_rfl) (by kernel_rfl) (by kernel_rfl) (fun _ _ _ h => h) (Or.inl ⟨by rfl, ?_⟩) (by assumption) ?_
          rotate_left
          · (intro w hSw; (try dsimp only at hSw); go_simp) <;> with_reducible rfl
          try simp only [Act.put, List.setIfInBounds_toArray, List.set_cons_zero, List.set_cons_succ]
          refine wpAnyH_take (i := 6) (oi := { dst := some 59, op := Op.load 9 (Operand.tmp 58), type := 9, pos := "l09_ledger.go:181", after := #[{ on := 5, ground := Ground.data }], guard := none }) (v := ?_) rfl (by kernel_rfl) (by kernel_rfl) (by kernel_rfl) (fun _ _ _ h => h) (Or.inl ⟨by rfl, ?_⟩) (by assumption) ?_
          rotate_left
          · (intro w hSw; (try dsimp only at hSw); go_simp) <;> with_reducible rfl
          try simp only [Act.put, List.setIfInBounds_toArray, List.set_cons_zero, List.set_cons_succ]
          refine wpAnyH_take (i := 9) (oi := { dst := some 62, op := Op.fieldAddr 25 (Operand.tmp 5) 3, type := 0, pos := "l09_ledger.go:181", after := #[], guard := none }) (v := ?_) rfl (by kernel_rfl) (by kernel_rfl) (by kernel_rfl) (fun _ _ _ h => h) (Or.inl ⟨by rfl, ?_⟩) (by assumption) ?_
          rotate_left
          · (intro w hSw; (try dsimp only at hSw); go_simp) <;> with_reducible rfl
          try simp only [Act.put, List.setIfInBounds_toArray, List.set_cons_zero, List.set_cons_succ]
          refine wpAnyH_take (i := 10) (oi := { dst := some 63, op := Op.load 23 (Operand.tmp 62), type := 23, pos := "l09_ledger.go:181", after := #[{ on := 9, ground := Ground.data }], guard := none }) (v := ?_) rfl (by kernel_rfl) (by kernel_rfl) (by kernel_rfl) (fun _ _ _ h => h) (Or.inl ⟨by rfl, ?_⟩) (by assumption) ?_
          rotate_left
          · (intro w hSw; (try dsimp only at hSw); go_simp) <;> with_reducible rfl
          try simp only [Act.put, List.setIfInBounds_toArray, List.set_cons_zero, List.set_cons_succ]
          refine wpAnyH_take (i := 11) (oi := { dst := some 64, op := Op.move (Operand.tmp 6), type := 3, pos := "l09_ledger.go:181", after := #[], guard := none }) (v := ?_) rfl (by kernel_rfl) (by kernel_rfl) (by kernel_rfl) (fun _ _ _ h => h) (Or.inl ⟨by rfl, ?_⟩) (by assumption) ?_
          rotate_left
          · (intro w hSw; (try dsimp only at hSw); go_simp) <;> with_reducible rfl
          try simp only [Act.put, List.setIfInBounds_toArray, List.set_cons_zero, List.set_cons_succ]
          refine wpAnyH_take (i := 12) (oi := { dst := some 65, op := Op.indexAddr 23 (Operand.tmp 63) (Operand.tmp 64), type := 0, pos := "l09_ledger.go:181", after := #[{ on := 10, ground := Ground.data }, { on := 11, ground := Ground.data }], guard := none }) (v := ?_) rfl (by kernel_rfl) (by kernel_rfl) (by kernel_rfl) (fun _ _ _ h => h) (Or.inl ⟨by rfl, ?_⟩) (by assumption) ?_
          rotate_left
          · (intro w hSw; (try dsimp only at hSw); go_simp) <;> with_reducible rfl
          try simp only [Act.put, List.setIfInBounds_toArray, List.set_cons_zero, List.set_cons_succ]
          refine wpAnyH_take (i := 13) (oi := { dst := some 66, op := Op.fieldAddr 45 (Operand.tmp 65) 1, type := 0, pos := "l09_ledger.go:181", after := #[{ on := 12, ground := Ground.data }], guard := none }) (v := ?_) rfl (by kernel_rfl) (by kernel_rfl) (by kernel_rfl) (fun _ _ _ h => h) (Or.inl ⟨by rfl, ?_⟩) (by assumption) ?_
          rotate_left
          · (intro w hSw; (try dsimp only at hSw); go_simp) <;> with_reducible rfl
          try simp only [Act.put, List.setIfInBounds_toArray, List.set_cons_zero, List.set_cons_succ]
          refine wpAnyH_take (i := 14) (oi := { dst := some 67, op := Op.load 2 (Operand.tmp 66), type := 2, pos := "l09_ledger.go:181", after := #[{ on := 13, ground := Ground.data }], guard := none }) (v := ?_) rfl (by kernel_rfl) (by kernel_rfl) (by kernel_rfl) (fun _ _ _ h => h) (Or.inl ⟨by rfl, ?_⟩) (by assumption) ?_
          rotate_left
          · (intro w hSw; (try dsimp only at hSw); go_simp) <;> with_reducible rfl
          try simp only [Act.put, List.setIfInBounds_toArray, List.set_cons_zero, List.set_cons_succ]
          refine wpAnyH_ready (rs := [7]) (by kernel_rfl) (by simp) ?_
          refine AllReadyH.cons (o := { dst := some 60, op := Op.call { callee := Callee.value (Operand.func 38), args := #[Operand.tmp 59], argTypes := #[9] }, type := 9, pos := "l09_ledger.go:181", after := #[{ on := 6, ground := Ground.data }], guard := none }) rfl (fun K hK => ?_) AllReadyH.nil
          go_simp
          go_at_call 38
          refine (Q1.out _).mono ?_
          rintro e q1 ⟨rfl, hq1⟩
          try go_wp2_with fail
          have hk1 := BU.below (w := w) (B := B) (x := .slice (some ⟨b2, off2, none⟩) ll lc) (b := b2) (f := off2 + i * 2) (a0 := .string U) (a1 := .int .i64 P) HU0.out hq1
          refine hK.out _ _ hk1 (fun _ => ?_)
          clear hK K
          try simp only [Act.put, List.setIfInBounds_toArray, List.set_cons_zero, List.set_cons_succ]
          refine wpAnyH_take (i := 8) (oi := { dst := some 61, op := Op.binOp BinOp.add 9 (Operand.tmp 53) (Operand.tmp 60) 9, type := 9, pos := "l09_ledger.go:181", after := #[{ on := 0, ground := Ground.data }, { on := 7, ground := Ground.data }], guard := none }) (v := ?_) rfl (by kernel_rfl) (by kernel_rfl) (by kernel_rfl) (fun _ _ _ h => h) (Or.inl ⟨by rfl, ?_⟩) (by assumption) ?_
          rotate_left
          · (intro w hSw; (try dsimp only at hSw); go_simp) <;> with_reducible rfl
          try simp only [Act.put, List.setIfInBounds_toArray, List.set_cons_zero, List.set_cons_succ]
          refine wpAnyH_ready (rs := [15]) (by kernel_rfl) (by simp) ?_
          refine AllReadyH.cons (o := { dst := some 68, op := Op.call { callee := Callee.value (Operand.func 37), args := #[Operand.tmp 67], argTypes := #[2] }, type := 9, pos := "l09_ledger.go:181", after := #[{ on := 14, ground := Ground.data }, { on := 7, ground := Ground.chain }], guard := none }) rfl (fun K hK => ?_) AllReadyH.nil
          go_simp
          go_at_call 37
          refine (Q2.out _).mono ?_
          rintro e q2 ⟨rfl, hq2⟩
          try go_wp2_with fail
          have hk2 := BU.below (w := w) (B := B) (x := .slice (some ⟨b2, off2, none⟩) ll lc) (b := b2) (f := off2 + i * 2) (a0 := .string U) (a1 := .int .i64 P) hk1 hq2
          refine hK.out _ _ hk2 (fun _ => ?_)
          clear hK K
          try simp only [Act.put, List.setIfInBounds_toArray, List.set_cons_zero, List.set_cons_succ]
          refine wpAnyH_take (i := 16) (oi := { dst := some 69, op := Op.binOp BinOp.add 9 (Operand.tmp 61) (Operand.tmp 68) 9, type := 9, pos := "l09_ledger.go:181", after := #[{ on := 8, ground := Ground.data }, { on := 15, ground := Ground.data }], guard := none }) (v := ?_) rfl (by kernel_rfl) (by kernel_rfl) (by kernel_rfl) (fun _ _ _ h => h) (Or.inl ⟨by rfl, ?_⟩) (by assumption) ?_
          rotate_left
          · (intro w hSw; (try dsimp only at hSw); go_simp) <;> with_reducible rfl
          try simp only [Act.put, List.setIfInBounds_toArray, List.set_cons_zero, List.set_cons_succ]
          refine wpAnyH_take (i := 17) (oi := { dst := some 3, op := Op.assign (Operand.tmp 69), type := 9, pos := "l09_ledger.go:181", after := #[{ on := 16, ground := Ground.data }, { on := 15, ground := Ground.chain }, { on := 0, ground := Ground.phase }, { on := 1, ground := Ground.phase }, { on := 2, ground := Ground.phase }, { on := 3, ground := Ground.phase }, { on := 4, ground := Ground.phase }, { on := 5, ground := Ground.phase }, { on := 6, ground := Ground.phase }, { on := 7, ground := Ground.phase }, { on := 8, ground := Ground.phase }, { on := 9, ground := Ground.phase }, { on := 10, ground := Ground.phase }, { on := 11, ground := Ground.phase }, { on := 12, ground := Ground.phase }, { on := 13, ground := Ground.phase }, { on := 14, ground := Ground.phase }, { on := 15, ground := Ground.phase }, { on := 16, ground := Ground.phase }], guard := none }) (v := ?_) rfl (by kernel_rfl) (by kernel_rfl) (by kernel_rfl) (fun _ _ _ h => h) (Or.inl ⟨by rfl, ?_⟩) (by assumption) ?_
          rotate_left
          · (intro w hSw; (try dsimp only at hSw); go_simp) <;> with_reducible rfl
          try simp only [Act.put, List.setIfInBounds_toArray, List.set_cons_zero, List.set_cons_succ]
          refine wpAnyH_done (by kernel_rfl) ?_ _
          have HB4 := hid_intro hk2.1
          have HX4 := hid_intro (DBz.below (w := w) (B := B) (a := a) (mo := mo) (sq := sq) (la := some ⟨b2, off2, none⟩) (ll := ll) (lc := lc) (HXr.out.below hq1) hq2)
          clear hk1 hk2 hq1 hq2 HU0
          go_wp2_with fail
          go_roundw
          case rel => exact ⟨i + 1, Z ++ X5 ++ X6, by omega, rfl, by go_num, hid_intro (by rw [HC2.out]; exact app_in _ _ _ _ _ HZ.out), HB4, HX4⟩
          case measure => simp [intOf]; omega
        · have hlt4 : ¬ (i : Int) < (ll : Int) := by omega
          obtain rfl : i = ll := by omega
          have HZJ : Hid (Z = J (j + 1)) := hid_intro (by rw [HC1.out, HZ.out, HRR2.out, HY.out])
          go_wp2_with fail
          go_roundw
          case rel => exact ⟨j + 1, Z, by omega, rfl, by go_num, HZJ, HBx⟩
          case measure => simp [intOf]; omega
    · have hlt2 : ¬ (j : Int) < (len : Int) := by omega
      obtain rfl : j = len := by omega
      obtain rfl : Y = LB := by rw [HY.out, HLB.out]
      by_cases hz : Y.size ≤ 8000
      · have hz2 : ¬ (8000 : Int) < (Y.size : Int) := by omega
        go_wp2_with fail
        go_ret
        exact ⟨ret_str (by rw [HT.out, decide_eq_true hz]; rfl), HB.out⟩
      · have hz2 : (8000 : Int) < (Y.size : Int) := by omega
        go_wp2_with fail
        go_ret
        exact ⟨ret_str (by rw [HT.out, decide_eq_false hz]; rfl), HB.out⟩
end LedR
end Go.Proofs.Ytppdilomefoaaaa
namespace Go.Proofs.Ytppdilomefoaaaa
open Go.ChangeShapes Go.WideShapes Go.ChangeAt Go.RowKit
set_option linter.unusedVariables false
namespace LedR
open LinR NetR DocR
open EvtR (rT pT rN pN rC pC rC_le rT_size cut_size)
open NumR (numB)
open JoinR (joinB)
open SpR (Sp sp_nil sp_app sp_one sp_txt sp_num sp_cnt cut_whole rN_i64 pC_none)
/-- So many lines read, and the place behind them. -/
def lnsR (s : ByteArray) : Option Nat → Nat → List N × Option Nat
  | o, 0 => ([], o)
  | o, k + 1 => (⟨rT s o, rN s (pT s o)⟩ :: (lnsR s (pN s (pT s o)) k).1, (lnsR s (pN s (pT s o)) k).2)
theorem lnsR_len (s : ByteArray) : ∀ (k : Nat) (o : Option Nat), (lnsR s o k).1.length = k
  | 0, _ => rfl
  | k + 1, o => by simp [lnsR, lnsR_len s k]
theorem lnsR_none (s : ByteArray) : ∀ k : Nat, (lnsR s none k).2 = none
  | 0 => rfl
  | k + 1 => by
    show (lnsR s (pN s (pT s none)) k).2 = none
    exact lnsR_none s k
theorem lnsR_snoc (s : ByteArray) : ∀ (k : Nat) (o : Option Nat), lnsR s o (k + 1) = ((lnsR s o k).1 ++ [⟨rT s (lnsR s o k).2, rN s (pT s (lnsR s o k).2)⟩], pN s (pT s (lnsR s o k).2))
  | 0, _ => rfl
  | k + 1, o => by
    have h := lnsR_snoc s k (pN s (pT s o))
    show ((⟨rT s o, rN s (pT s o)⟩ : N) :: (lnsR s (pN s (pT s o)) (k + 1)).1, (lnsR s (pN s (pT s o)) (k + 1)).2) = _
    rw [h]
    rfl
theorem lnsR_size (s : ByteArray) : ∀ (k : Nat) (o : Option Nat), ∀ e ∈ (lnsR s o k).1, e.i.size ≤ 8000
  | 0, _, e, h => by cases h
  | k + 1, o, e, h => by
    rcases List.mem_cons.1 h with rfl | h
    · exact rT_size s o
    · exact lnsR_size s k _ e h
theorem sp_lns (s : ByteArray) : ∀ (k : Nat) (o : Option Nat) (q : Nat), (∀ p, o = some p → p ≤ s.size) → (lnsR s o k).2 = some q → ∃ p, o = some p ∧ Sp s p q ((lnsR s o k).1.flatMap lnP)
  | 0, o, q, hp, h => ⟨q, h, sp_nil (hp q h)⟩
  | k + 1, o, q, hp, h => by
    have h1 : (lnsR s (pN s (pT s o)) k).2 = some q := h
    obtain ⟨r, e, h2⟩ := sp_lns s k (pN s (pT s o)) q (fun p e => by obtain ⟨_, _, h3, _⟩ := sp_num e; exact h3.2.1) h1
    obtain ⟨p1, e1, h3, _⟩ := sp_num e
    obtain ⟨p, e2, h4, _⟩ := sp_txt e1
    refine ⟨p, e2, ?_⟩
    have := sp_app h4 (sp_app h3 h2)
    exact this
/-- The document that is read, and the place behind it. -/
def dO3 (s : ByteArray) (o : Option Nat) : Option Nat := pN s (pN s (pT s o))
def dC (s : ByteArray) (o : Option Nat) : Nat := rC s (dO3 s o) 6
def dO4 (s : ByteArray) (o : Option Nat) : Option Nat := pC s (dO3 s o) 6
def docR (s : ByteArray) (o : Option Nat) : D := ⟨rT s o, rN s (pT s o), rN s (pN s (pT s o)), (lnsR s (dO4 s o) (dC s o)).1⟩
def docP (s : ByteArray) (o : Option Nat) : Option Nat := (lnsR s (dO4 s o) (dC s o)).2
theorem docR_len (s : ByteArray) (o : Option Nat) : (docR s o).ls.length = dC s o := lnsR_len s _ _
theorem docP_none (s : ByteArray) : docP s none = none := by
  unfold docP dO4
  rw [show dO3 s none = none from rfl, pC_none]
  exact lnsR_none s _
theorem docR_sm (s : ByteArray) (o : Option Nat) : (docR s o).Sm := by
  refine ⟨?_, ?_, fun e he => ?_⟩
  · have := rT_size s o
    show (rT s o).size ≤ _
    omega
  · rw [docR_len]
    have := rC_le s (dO3 s o) 6
    unfold dC
    omega
  · have := lnsR_size s _ _ e he
    omega
theorem docR_wf (s : ByteArray) (o : Option Nat) : (Lit.int .i64 (docR s o).mo).wf = true := by
  have := rN_i64 s (pT s o)
  unfold NumsR.I64 at this
  have e : (docR s o).mo = rN s (pT s o) := rfl
  rw [e]
  generalize rN s (pT s o) = n at *
  simp only [Lit.wf, IntKind.min, IntKind.max, IntKind.signed, IntKind.bits, Bool.and_eq_true, decide_eq_true_eq, if_true]
  omega
theorem sp_doc {s : ByteArray} {o : Option Nat} {q : Nat} (h : docP s o = some q) : ∃ p, o = some p ∧ Sp s p q [dBy (docR s o)] ∧ p < q := by
  obtain ⟨p5, e5, h5⟩ := sp_lns s _ _ q (fun p e => by obtain ⟨_, _, h3, _⟩ := sp_cnt e; exact h3.2.1) h
  obtain ⟨p4, e4, h4, _⟩ := sp_cnt e5
  obtain ⟨p3, e3, h3, _⟩ := sp_num e4
  obtain ⟨p2, e2, h2, _⟩ := sp_num e3
  obtain ⟨p1, e1, h1, l1⟩ := sp_txt e2
  have hh := sp_app h1 (sp_app h2 (sp_app h3 (sp_app h4 h5)))
  have a2 := h2.1
  have a3 := h3.1
  have a4 := h4.1
  have a5 := h5.1
  refine ⟨p1, e1, ?_, by omega⟩
  have e : dBy (docR s o) = joinB ([SpR.txB (rT s o)] ++ ([numB (rN s (pT s o))] ++ ([numB (rN s (pN s (pT s o)))] ++ ([numB (dC s o)] ++ (lnsR s (dO4 s o) (dC s o)).1.flatMap lnP)))) := by
    unfold dBy bP
    rw [List.take_length, docR_len]
    rfl
  rw [e]
  exact sp_one hh
/-- So many documents read, and the place behind them. -/
def docsR (s : ByteArray) : Option Nat → Nat → List D × Option Nat
  | o, 0 => ([], o)
  | o, k + 1 => (docR s o :: (docsR s (docP s o) k).1, (docsR s (docP s o) k).2)
theorem docsR_len (s : ByteArray) : ∀ (k : Nat) (o : Option Nat), (docsR s o k).1.length = k
  | 0, _ => rfl
  | k + 1, o => by simp [docsR, docsR_len s k]
theorem docsR_snoc (s : ByteArray) : ∀ (k : Nat) (o : Option Nat), docsR s o (k + 1) = ((docsR s o k).1 ++ [docR s (docsR s o k).2], docP s (docsR s o k).2)
  | 0, _ => rfl
  | k + 1, o => by
    have h := docsR_snoc s k (docP s o)
    show (docR s o :: (docsR s (docP s o) (k + 1)).1, (docsR s (docP s o) (k + 1)).2) = _
    rw [h]
    rfl
theorem docsR_all {P : D → Prop} (s : ByteArray) (hP : ∀ o, P (docR s o)) : ∀ (k : Nat) (o : Option Nat), ∀ d ∈ (docsR s o k).1, P d
  | 0, _, d, h => by cases h
  | k + 1, o, d, h => by
    rcases List.mem_cons.1 h with rfl | h
    · exact hP o
    · exact docsR_all s hP k _ d h
theorem sp_docs (s : ByteArray) : ∀ (k : Nat) (o : Option Nat) (q : Nat), (∀ p, o = some p → p ≤ s.size) → (docsR s o k).2 = some q → ∃ p, o = some p ∧ Sp s p q ((docsR s o k).1.map dBy)
  | 0, o, q, hp, h => ⟨q, h, sp_nil (hp q h)⟩
  | k + 1, o, q, hp, h => by
    have h1 : (docsR s (docP s o) k).2 = some q := h
    obtain ⟨r, e, h2⟩ := sp_docs s k (docP s o) q (fun p e => by obtain ⟨_, _, h3, _⟩ := sp_doc e; exact h3.2.1) h1
    obtain ⟨p, e2, h3, _⟩ := sp_doc e
    exact ⟨p, e2, sp_app h3 h2⟩
def nD (s : ByteArray) : Nat := rC s (some 0) 30
def oD0 (s : ByteArray) : Option Nat := pC s (some 0) 30
def dsR (s : ByteArray) : List D := (docsR s (oD0 s) (nD s)).1
def oDE (s : ByteArray) : Option Nat := (docsR s (oD0 s) (nD s)).2
theorem dsR_len (s : ByteArray) : (dsR s).length = nD s := docsR_len s _ _
theorem dsR_le (s : ByteArray) : (dsR s).length ≤ 30 := by rw [dsR_len]; exact rC_le s _ 30
theorem led_back {s : ByteArray} {q : Nat} (h : oDE s = some q) : q ≤ s.size ∧ 0 < q ∧ s.extract 0 q = lBy (dsR s) := by
  obtain ⟨p1, e1, h1⟩ := sp_docs s _ _ q (fun p e => by obtain ⟨_, _, h3, _⟩ := sp_cnt e; exact h3.2.1) h
  obtain ⟨p0, e0, h0, l0⟩ := sp_cnt e1
  cases e0
  have hh := sp_app h0 h1
  have a1 := h1.1
  refine ⟨hh.2.1, by omega, ?_⟩
  rw [hh.2.2]
  unfold lBy lP
  rw [List.take_length, dsR_len]
  rfl
/-- What the model asks of what is read is what the program asks. -/
theorem led_same (s : ByteArray) (hs : s.size ≤ 8000) : (oDE s ≠ none ∧ s.size ≠ 0 ∧ lbB (dsR s) = s) ↔ (oDE s = some s.size ∧ lB (dsR s) = true) := by
  constructor
  · rintro ⟨h1, h2, h3⟩
    cases ho : oDE s with
    | none => exact absurd ho h1
    | some q =>
      obtain ⟨b1, b2, b3⟩ := led_back ho
      cases hw : lB (dsR s)
      · unfold lbB at h3
        rw [hw] at h3
        rw [← h3] at h2
        exact absurd rfl h2
      · unfold lbB at h3
        rw [hw] at h3
        simp only [cond_true] at h3
        cases hd : decide ((lBy (dsR s)).size ≤ 8000)
        · rw [hd] at h3
          rw [← h3] at h2
          exact absurd rfl h2
        · rw [hd] at h3
          simp only [cond_true] at h3
          rw [h3] at b3
          have hz := congrArg ByteArray.size b3
          rw [cut_size s 0 q b1] at hz
          exact ⟨by rw [show q = s.size by omega], rfl⟩
  · rintro ⟨h1, h2⟩
    obtain ⟨b1, b2, b3⟩ := led_back h1
    rw [cut_whole] at b3
    refine ⟨by rw [h1]; simp, by omega, ?_⟩
    unfold lbB
    rw [h2, ← b3, decide_eq_true hs]
    rfl
end LedR
end Go.Proofs.Ytppdilomefoaaaa
namespace Go.Proofs.Ytppdilomefoaaaa
open Go.ChangeShapes Go.WideShapes Go.ChangeAt Go.RowKit Go.Deep
set_option linter.unusedVariables false
namespace DocR
open RowG LinR
section
variable {J : Type} {enc : TypeId × Value → J} {P : Program} {w : World} {base : Nat} {spare : Nat → Bool} {held : Bool}
theorem lst4 {α : Type} {cs : List α} (h : cs.length = 4) : ∃ c0 c1 c2 c3, cs = [c0, c1, c2, c3] := by
  match cs, h with
  | [c0, c1, c2, c3], _ => exact ⟨c0, c1, c2, c3, rfl⟩
theorem slice_one {t e : TypeId} {fuel : Nat} {c : Value} {x : DataW J × List MemPlace} (ht : P.underlying t = some (.slice e)) (h : DataW.trod enc P w base spare held fuel t [c] = some x) : ∃ ao len cap, c = .slice ao len cap := by
  rcases DataW.trod_slice ht h with ⟨hcs, _⟩ | ⟨a, len', cap', elems, rest, n, _, hcs, _⟩
  · simp only [List.cons.injEq, and_true] at hcs
    exact ⟨_, _, _, hcs⟩
  · simp only [List.cons.injEq, and_true] at hcs
    exact ⟨_, _, _, hcs⟩
/-- A document that came in, cell by cell. -/
theorem doc_open {t te : TypeId} {f0 f1 f2 f3 g0 g1 : Field} {fuel : Nat} {cs : List Value} {x : DataW J × List MemPlace} (hs : P.underlying t = some (.struct #[f0, f1, f2, f3])) (hone : oneCellFields P #[f0, f1, f2, f3] = true) (hC : P.cellsOf t = 4)
    (u0 : P.underlying f0.type = some .string) (u1 : P.underlying f1.type = some (.int .i64)) (u2 : P.underlying f2.type = some (.int .i64)) (u3 : P.underlying f3.type = some (.slice te))
    (hs2 : P.underlying te = some (.struct #[g0, g1])) (hone2 : oneCellFields P #[g0, g1] = true) (hC2 : P.cellsOf te = 2) (v0 : P.underlying g0.type = some .string) (v1 : P.underlying g1.type = some (.int .i64))
    (h : DataW.trod enc P w base spare held fuel t cs = some x) :
    ∃ (x : D) (la : Option Addr) (lc : Nat), cs = (dcells x la lc).toList ∧ x.In ∧ Lis la x.ls w := by
  obtain ⟨xs, n, _, _, hl, hlen, hf⟩ := DataW.trod_struct hs h
  obtain ⟨c0, c1, c2, c3, rfl⟩ := lst4 (hl.trans hC)
  obtain ⟨y0, y1, y2, y3, rfl⟩ := lst4 (show xs.length = 4 from hlen)
  obtain ⟨o0, k0⟩ := hone_of hone 0 f0 rfl
  obtain ⟨o1, k1⟩ := hone_of hone 1 f1 rfl
  obtain ⟨o2, k2⟩ := hone_of hone 2 f2 rfl
  obtain ⟨o3, k3⟩ := hone_of hone 3 f3 rfl
  have h0 := hf 0 f0 rfl
  have h1 := hf 1 f1 rfl
  have h2 := hf 2 f2 rfl
  have h3 := hf 3 f3 rfl
  simp [o0, k0] at h0
  simp [o1, k1] at h1
  simp [o2, k2] at h2
  simp [o3, k3] at h3
  obtain ⟨a, e0, _, s0⟩ := DataW.trod_string u0 h0
  obtain ⟨p, e1, _, _⟩ := DataW.trod_int u1 h1
  obtain ⟨q, e2, _, _⟩ := DataW.trod_int u2 h2
  obtain ⟨la, ll, lc, rfl⟩ := slice_one u3 h3
  obtain ⟨ls, rfl, q1, q2, q3⟩ := lis_open u3 hs2 hone2 hC2 v0 v1 h3
  simp only [List.cons.injEq, and_true] at e0 e1 e2
  subst e0 e1 e2
  exact ⟨⟨a, p, q, ls⟩, la, lc, rfl, ⟨s0, q1, q3⟩, q2⟩
end
end DocR
end Go.Proofs.Ytppdilomefoaaaa
namespace Go.Proofs.Ytppdilomefoaaaa
open Go.ChangeShapes Go.WideShapes Go.ChangeAt Go.RowKit Go.Deep
set_option linter.unusedVariables false
namespace LedR
open LinR RowG LtR NetR DocR
open EvtR (Pt cell_put cell_far)
/-- A list of documents that came in. -/
def IsDcs (w : World) (ao : Option Addr) (ds : List D) : Prop := ds.length ≤ maxLen ∧ Dcs ao ds w ∧ ∀ d ∈ ds, d.In ∧ (Lit.int .i64 d.mo).wf = true
section
variable {J : Type} {enc : TypeId × Value → J} {P : Program} {w : World} {base : Nat} {spare : Nat → Bool} {held : Bool}
theorem doc_wf {t : TypeId} {f0 f1 f2 f3 : Field} {fuel : Nat} {cs : List Value} {x : DataW J × List MemPlace} (hs : P.underlying t = some (.struct #[f0, f1, f2, f3])) (hone : oneCellFields P #[f0, f1, f2, f3] = true) (hC : P.cellsOf t = 4) (u1 : P.underlying f1.type = some (.int .i64))
    (h : DataW.trod enc P w base spare held fuel t cs = some x) (y : D) (la : Option Addr) (lc : Nat) (e : cs = (dcells y la lc).toList) : (Lit.int .i64 y.mo).wf = true := by
  obtain ⟨xs, n, _, _, hl, hlen, hf⟩ := DataW.trod_struct hs h
  obtain ⟨c0, c1, c2, c3, rfl⟩ := lst4 (hl.trans hC)
  obtain ⟨y0, y1, y2, y3, rfl⟩ := lst4 (show xs.length = 4 from hlen)
  obtain ⟨o1, k1⟩ := hone_of hone 1 f1 rfl
  have h1 := hf 1 f1 rfl
  simp [o1, k1] at h1
  obtain ⟨p, e1, _, hw⟩ := DataW.trod_int u1 h1
  simp only [List.cons.injEq, and_true] at e1
  simp [dcells] at e
  rw [e1] at e
  have := e.2.1
  simp at this
  rw [← this]
  exact hw
theorem docs_open {t e te : TypeId} {f0 f1 f2 f3 g0 g1 : Field} {fuel : Nat} {ao : Option Addr} {len cap : Nat} {x : DataW J × List MemPlace} (ht : P.underlying t = some (.slice e)) (hs : P.underlying e = some (.struct #[f0, f1, f2, f3])) (hone : oneCellFields P #[f0, f1, f2, f3] = true) (hC : P.cellsOf e = 4)
    (u0 : P.underlying f0.type = some .string) (u1 : P.underlying f1.type = some (.int .i64)) (u2 : P.underlying f2.type = some (.int .i64)) (u3 : P.underlying f3.type = some (.slice te))
    (hs2 : P.underlying te = some (.struct #[g0, g1])) (hone2 : oneCellFields P #[g0, g1] = true) (hC2 : P.cellsOf te = 2) (v0 : P.underlying g0.type = some .string) (v1 : P.underlying g1.type = some (.int .i64))
    (h : DataW.trod enc P w base spare held fuel t [.slice ao len cap] = some x) : ∃ ds, ds.length = len ∧ IsDcs w ao ds := by
  rcases DataW.trod_slice ht h with ⟨hcs, _⟩ | ⟨a, len', cap', elems, rest, n, _, hcs, _, hb, hl, hm, hlen, hel, _, _⟩
  · simp only [List.cons.injEq, Value.slice.injEq, and_true] at hcs
    obtain ⟨rfl, rfl, rfl⟩ := hcs
    exact ⟨[], rfl, Nat.zero_le _, .inl rfl, fun e he => by cases he⟩
  · simp only [List.cons.injEq, Value.slice.injEq, and_true] at hcs
    obtain ⟨rfl, rfl, rfl⟩ := hcs
    have key : ∀ i, i < len → ∃ (X : D) (la : Option Addr) (lc : Nat), X.In ∧ (Lit.int .i64 X.mo).wf = true ∧ Lis la X.ls w ∧ w.cells? base (a.add (i * 4)) 4 = some (dcells X la lc).toList := by
      intro i hi
      have h1 := hel i hi
      rw [hC, List.getElem?_eq_getElem (by omega)] at h1
      cases hc : w.cells? base (a.add (i * 4)) 4 with
      | none => rw [hc] at h1; simp at h1
      | some cs =>
        rw [hc] at h1
        simp only [Option.bind_some] at h1
        obtain ⟨X, la, lc, rfl, q1, q2⟩ := doc_open hs hone hC u0 u1 u2 u3 hs2 hone2 hC2 v0 v1 h1
        exact ⟨X, la, lc, q1, doc_wf hs hone hC u1 h1 X la lc rfl, q2, rfl⟩
    have : ∃ f : Nat → D, ∀ i, i < len → (f i).In ∧ (Lit.int .i64 (f i).mo).wf = true ∧ ∃ la lc, Lis la (f i).ls w ∧ w.cells? base (a.add (i * 4)) 4 = some (dcells (f i) la lc).toList := by
      refine ⟨fun i => if hi : i < len then Classical.choose (key i hi) else D.zero, fun i hi => ?_⟩
      simp only [hi, dif_pos]
      obtain ⟨la, lc, q1, q2, q3, q4⟩ := Classical.choose_spec (key i hi)
      exact ⟨q1, q2, la, lc, q3, q4⟩
    obtain ⟨f, hf⟩ := this
    refine ⟨(List.range len).map f, by simp, by simp; omega, ?_, fun e he => ?_⟩
    · by_cases h0 : len = 0
      · exact .inl (by simpa using h0)
      · obtain ⟨b, off, spot⟩ := a
        obtain ⟨_, _, la0, lc0, _, hc00⟩ := hf 0 (by omega)
        have hc0 := LinR.cells_at hc00 0 (by omega)
        have hspot : spot = none := by
          have : w.cell? ⟨b, off, spot⟩ = some (.string (f 0).a) := by simpa [Addr.add, dcells] using hc0
          exact World.cell?_spot this
        subst hspot
        refine .inr ⟨b, off, rfl, ?_, fun j hj => ?_⟩
        · have : w.cell? ⟨b, off, none⟩ = some (.string (f 0).a) := by simpa [Addr.add, dcells] using hc0
          exact World.block_lt_of_cell? w _ this
        · have hj : j < len := by simpa using hj
          have e : ((List.range len).map f).getD j D.zero = f j := by simp [List.getD, hj]
          rw [e]
          obtain ⟨_, _, la, lc, hL, hcc⟩ := hf j hj
          have g := fun k (hk : k < 4) => LinR.cells_at hcc k hk
          have ad : ∀ k, ((⟨b, off, none⟩ : Addr).add (j * 4)).add k = ⟨b, off + j * 4 + k, none⟩ := by
            intro k
            unfold Addr.add
            split <;> split <;> simp_all
          simp only [ad] at g
          exact ⟨la, lc, g 0 (by omega), g 1 (by omega), g 2 (by omega), g 3 (by omega), hL⟩
    · simp only [List.mem_map, List.mem_range] at he
      obtain ⟨i, hi, rfl⟩ := he
      exact ⟨(hf i hi).1, (hf i hi).2.1⟩
end
/-- What is left of a size. -/
def dsS : Int → List D → Int
  | l, [] => l
  | l, d :: ds => if dszR l d < 0 then -1 else dsS (dszR l d) ds
theorem dsS_small : ∀ {ds : List D} {l : Int}, l ≤ 1048576 → ¬ dsS l ds < 0 → ∀ d ∈ ds, d.Sm
  | [], l, _, _, d, h => by cases h
  | x :: ds, l, hl, h, d, hd => by
    rw [dsS] at h
    by_cases q : dszR l x < 0
    · rw [if_pos q] at h; exact absurd (by omega) h
    · rw [if_neg q] at h
      obtain ⟨h1, h2⟩ := dsz_small hl q
      rcases List.mem_cons.1 hd with rfl | hd
      · exact h1
      · exact dsS_small (by omega) h d hd
def szDR (ds : List D) : Int := if (1048576 : Int) - (ds.length : Int) < 0 then -1 else dsS (1048576 - (ds.length : Int)) ds
theorem szDR_small {ds : List D} (h : ¬ szDR ds < 0) : ds.length ≤ 1048576 ∧ ∀ d ∈ ds, d.Sm := by
  unfold szDR at h
  by_cases q : (1048576 : Int) - (ds.length : Int) < 0
  · rw [if_pos q] at h; exact absurd (by omega) h
  · rw [if_neg q] at h
    exact ⟨by omega, dsS_small (by omega) h⟩
theorem drop_more (ds : List D) (k : Nat) (h : k < ds.length) : ds.drop k = ds.getD k D.zero :: ds.drop (k + 1) := by
  rw [List.drop_eq_getElem_cons h]
  simp [List.getD, h]
end LedR
end Go.Proofs.Ytppdilomefoaaaa
namespace Go.Proofs.Ytppdilomefoaaaa
open Go.ChangeShapes Go.WideShapes Go.ChangeAt Go.RowKit Go.Deep
set_option linter.unusedVariables false
namespace LedR
open LinR RowG LtR NetR DocR
open EvtR (Pt cell_put cell_far)
theorem infoD : (Try.prog.info? 25).map (fun i => (i.zero, i.size, i.bytes)) = some (some (.agg #[.string ⟨#[]⟩, .int .i64 0, .int .i64 0, .slice none 0 0]), 4, 56) := by kernel_rfl
theorem pt_any {p q n o : Nat} {W : World} {v : Value} (h : Pt p n W) : Pt p n (W.setCell ⟨q, o, none⟩ v) := by
  by_cases e : p = q
  · subst e; exact h.set _ _
  · have eb : (W.setCell ⟨q, o, none⟩ v).heap[p]? = W.heap[p]? := by
      simp only [World.setCell]
      rw [Array.getElem?_modify, if_neg (fun e2 => e e2.symm)]
    exact ⟨by have := h.lt; simpa using this, fun x hx => by obtain ⟨u, hu⟩ := h.has x hx; exact ⟨u, (World.cell?_of_block (a := ⟨p, x, none⟩) eb).trans hu⟩, fun x hx => (World.frozen?_of_block (a := ⟨p, x, none⟩) eb).trans (h.free x hx)⟩
theorem ne_of {la : Option Addr} {n g : Nat} {W : World} (h : n = 0 ∨ ∃ g', la = some ⟨g', 0, none⟩ ∧ g < g' ∧ g' < W.heap.size ∧ Pt g' (n * 2) W) : n = 0 ∨ ∀ b off, la = some ⟨b, off, none⟩ → b ≠ g :=
  h.imp id (fun ⟨g', e1, e2, _⟩ b off e3 => by rw [e1] at e3; simp at e3; omega)
theorem own_put {la : Option Addr} {n g q o : Nat} {W : World} {v : Value} (h : n = 0 ∨ ∃ g', la = some ⟨g', 0, none⟩ ∧ g < g' ∧ g' < W.heap.size ∧ Pt g' (n * 2) W) : n = 0 ∨ ∃ g', la = some ⟨g', 0, none⟩ ∧ g < g' ∧ g' < (W.setCell ⟨q, o, none⟩ v).heap.size ∧ Pt g' (n * 2) (W.setCell ⟨q, o, none⟩ v) :=
  h.imp id (fun ⟨g', e1, e2, e3, e4⟩ => ⟨g', e1, e2, by simpa using e3, pt_any e4⟩)
/-- The first documents of a list that is being laid. -/
def DW (g k : Nat) (ds : List D) (W : World) : Prop := ∀ j, j < k → ∃ la lc, W.cell? ⟨g, j * 4, none⟩ = some (.string (ds.getD j D.zero).a) ∧ W.cell? ⟨g, j * 4 + 1, none⟩ = some (.int .i64 (ds.getD j D.zero).mo) ∧ W.cell? ⟨g, j * 4 + 2, none⟩ = some (.int .i64 (ds.getD j D.zero).sq) ∧ W.cell? ⟨g, j * 4 + 3, none⟩ = some (.slice la (ds.getD j D.zero).ls.length lc) ∧ Lis la (ds.getD j D.zero).ls W ∧ ((ds.getD j D.zero).ls.length = 0 ∨ ∃ g', la = some ⟨g', 0, none⟩ ∧ g < g' ∧ g' < W.heap.size ∧ Pt g' ((ds.getD j D.zero).ls.length * 2) W)
theorem DW.below {g k : Nat} {ds : List D} {W W' : World} (h : DW g k ds W) (hg : g < W.heap.size) (hb : Below W.heap.size W W') : DW g k ds W' := by
  intro j hj
  obtain ⟨la, lc, c0, c1, c2, c3, hL, hn⟩ := h j hj
  have f := fun x => hb.cell (p := ⟨g, x, none⟩) hg
  exact ⟨la, lc, (f _).trans c0, (f _).trans c1, (f _).trans c2, (f _).trans c3, hL.below hb, hn.imp id (fun ⟨g', e1, e2, e3, e4⟩ => ⟨g', e1, e2, by have := hb.size; omega, e4.below hb⟩)⟩
theorem DW.put {g k o : Nat} {ds : List D} {W : World} (h : DW g k ds W) (ho : k * 4 ≤ o) (v : Value) : DW g k ds (W.setCell ⟨g, o, none⟩ v) := by
  intro j hj
  obtain ⟨la, lc, c0, c1, c2, c3, hL, hn⟩ := h j hj
  exact ⟨la, lc, (cell_far _ _ (by omega) v).trans c0, (cell_far _ _ (by omega) v).trans c1, (cell_far _ _ (by omega) v).trans c2, (cell_far _ _ (by omega) v).trans c3, DocR.Rws.put hL g o v (ne_of hn), own_put hn⟩
theorem DW.more {g k n : Nat} {ds : List D} {W : World} (h : DW g k ds W) (hp : Pt g n W) (hk : k * 4 + 3 < n) (la : Option Addr) (lc : Nat) (hL : Lis la (ds.getD k D.zero).ls W) (hn : (ds.getD k D.zero).ls.length = 0 ∨ ∃ g', la = some ⟨g', 0, none⟩ ∧ g < g' ∧ g' < W.heap.size ∧ Pt g' ((ds.getD k D.zero).ls.length * 2) W) :
    DW g (k + 1) ds ((((W.setCell ⟨g, k * 4, none⟩ (.string (ds.getD k D.zero).a)).setCell ⟨g, k * 4 + 1, none⟩ (.int .i64 (ds.getD k D.zero).mo)).setCell ⟨g, k * 4 + 2, none⟩ (.int .i64 (ds.getD k D.zero).sq)).setCell ⟨g, k * 4 + 3, none⟩ (.slice la (ds.getD k D.zero).ls.length lc)) := by
  intro j hj
  by_cases e : j = k
  · subst e
    have p1 := hp.set (j * 4) (.string (ds.getD j D.zero).a)
    have p2 := p1.set (j * 4 + 1) (.int .i64 (ds.getD j D.zero).mo)
    have p3 := p2.set (j * 4 + 2) (.int .i64 (ds.getD j D.zero).sq)
    refine ⟨la, lc, ?_, ?_, ?_, cell_put p3 _ hk _, DocR.Rws.put (DocR.Rws.put (DocR.Rws.put (DocR.Rws.put hL g _ _ (ne_of hn)) g _ _ (ne_of hn)) g _ _ (ne_of hn)) g _ _ (ne_of hn), own_put (own_put (own_put (own_put hn)))⟩
    · rw [cell_far _ _ (by omega), cell_far _ _ (by omega), cell_far _ _ (by omega), cell_put hp _ (by omega)]
    · rw [cell_far _ _ (by omega), cell_far _ _ (by omega), cell_put p1 _ (by omega)]
    · rw [cell_far _ _ (by omega), cell_put p2 _ (by omega)]
  · exact ((((h.put (by omega) _).put (by omega) _).put (by omega) _).put (by omega) _) j (by omega)
theorem DW.dcs {g : Nat} {ds : List D} {W : World} (h : DW g ds.length ds W) (hg : g < W.heap.size) : Dcs (some ⟨g, 0, none⟩) ds W := .inr ⟨g, 0, rfl, hg, fun j hj => by
  obtain ⟨la, lc, c0, c1, c2, c3, hL, _⟩ := h j hj
  exact ⟨la, lc, by rw [Nat.zero_add]; exact c0, by rw [Nat.zero_add]; exact c1, by rw [Nat.zero_add]; exact c2, by rw [Nat.zero_add]; exact c3, hL⟩⟩
set_option maxRecDepth 100000 in
set_option maxHeartbeats 4000000 in
theorem eqDs (ao bo : Option Addr) (cap cap' : Nat) (ds : List D) (w : World) (hlen : ds.length ≤ 1048576) (hSm : ∀ d ∈ ds, d.Sm) (hI : Dcs ao ds w) (hJ : Dcs bo ds w) :
    Calls Try.prog 23 #[.slice ao ds.length cap, .slice bo ds.length cap'] w fun e w' => e = .returned (.bool true) ∧ Below w.heap.size w w' := by
  have HI := hid_intro hI
  have HJ := hid_intro hJ
  have HSm := hid_intro hSm
  obtain ⟨len, hl⟩ : ∃ len, len = ds.length := ⟨_, rfl⟩
  rw [← hl] at hlen ⊢
  have HL := hid_intro hl
  clear hI hJ hl hSm
  go_enter Try.func23, Try.ntmps23
  go_wp2_with fail
  go_loopw [5] (fun z wr => ∃ k : Nat, k ≤ len ∧ z = .int .i64 k ∧ Hid (Below w.heap.size w wr)) (fun z _ => len - (intOf z).toNat)
  case atStart => exact ⟨0, by omega, rfl, hid_intro (Below.refl _ _)⟩
  case round =>
    obtain ⟨k, hk, rfl, HW⟩ := hrel
    by_cases hlt : k < len
    · have hlt2 : (k : Int) < (len : Int) := by omega
      have hkl : k < ds.length := by have := HL.out; omega
      obtain ⟨b, off, la, lc, rfl, _, c0, c1, c2, c3, hLi⟩ := (HI.out.below HW.out).at k hkl
      obtain ⟨b', off', la', lc', rfl, _, e0, e1, e2, e3, hLi'⟩ := (HJ.out.below HW.out).at k hkl
      have hsm := HSm.out _ (getD_mem (z := D.zero) ds k hkl)
      have HC := hid_intro (eqD_any (.agg (dcells (ds.getD k D.zero) la lc)) (.agg (dcells (ds.getD k D.zero) la' lc')) (ds.getD k D.zero) wr.drew hsm.2.1 ⟨la, lc, rfl, hLi.below (Below.refl _ _).drew⟩ ⟨la', lc', rfl, hLi'.below (Below.refl _ _).drew⟩)
      generalize ds.getD k D.zero = X at *
      obtain ⟨xa, xm, xs, xl⟩ := X
      unfold dcells at HC
      dsimp only at c0 c1 c2 c3 e0 e1 e2 e3 HC
      clear hsm hLi hLi'
      generalize xl.length = ll at *
      go_wp2_with fail
      go_region_with (go_at_call 24; refine HC.out.mono ?_; rintro e w1 ⟨rfl, hb⟩)
      all_goals (
        have HB1 := hid_intro (HW.out.drew.trans (hb.mono HW.out.drew.size))
        clear hb c0 c1 c2 c3 e0 e1 e2 e3
        go_wp2_with fail
        go_roundw
        case rel => exact ⟨k + 1, by omega, by go_num, HB1⟩
        case measure => simp [intOf]; omega)
    · have hlt2 : ¬ (k : Int) < (len : Int) := by omega
      go_wp2_with fail
      go_ret
      exact ⟨rfl, HW.out⟩
end LedR
end Go.Proofs.Ytppdilomefoaaaa
namespace Go.Proofs.Ytppdilomefoaaaa
open Go.ChangeShapes Go.WideShapes Go.ChangeAt Go.RowKit
set_option linter.unusedVariables false
namespace LedR
open OwG LinR DocR
open RowG (MadeG Rws cellsAll hid_intro)
open EvtR (Pt)
open CatR (Blk Blk.new)
/-- A document with the place of its lines. -/
structure DA where
  d : D
  la : Option Addr
  lc : Nat
def DA.v (x : DA) : Value := .slice x.la x.d.ls.length x.lc
def DA.cells (x : DA) : List Value := [.string x.d.a, .int .i64 x.d.mo, .int .i64 x.d.sq, x.v]
theorem DA.len (x : DA) : x.cells.length = 4 := rfl
def DA.zero : DA := ⟨D.zero, none, 0⟩
/-- Its lines are its own. -/
def LnO (base : Nat) (x : DA) (W : World) : Prop := W.ownsRow base 45 2 x.v x.d.ls.length (cellsAll N.cells x.d.ls)
def Apt (x y : DA) : Prop := ∀ b, x.v.ownBlock = some b → y.v.ownBlock ≠ some b
/-- A list of documents of one's own. -/
def DsO (base : Nat) (v : Value) (ds : List D) (W : World) : Prop := ∃ xs : List DA, xs.map DA.d = ds ∧ W.ownsRow base 25 4 v ds.length (cellsAll DA.cells xs) ∧ (∀ x ∈ xs, LnO base x W) ∧ xs.Pairwise Apt
theorem LnO.grown {base : Nat} {x : DA} {W W' : World} {row : Option Nat} (h : LnO base x W) (hg : W.grownBy W' row) (hne : ∀ b, x.v.ownBlock = some b → some b ≠ row) : LnO base x W' := own_keepO h hg hne
theorem LnO.low {base base' : Nat} {x : DA} {W : World} (h : LnO base x W) (hb : base' ≤ base) : LnO base' x W := OwG.own_low h hb
theorem dso_nil (base : Nat) (W : World) : DsO base (.slice none 0 0) [] W := ⟨[], rfl, World.ownsRow_nil _ _ _ _, (fun x h => absurd h (by simp)), List.Pairwise.nil⟩
theorem DsO.low {base base' : Nat} {v : Value} {ds : List D} {W : World} (h : DsO base v ds W) (hb : base' ≤ base) : DsO base' v ds W := by
  obtain ⟨xs, h1, h2, h3, h4⟩ := h
  exact ⟨xs, h1, OwG.own_low h2 hb, fun x hx => (h3 x hx).low hb, h4⟩
theorem DsO.far {base g : Nat} {v : Value} {ds : List D} {W W' : World} (h : DsO base v ds W) (hg : W.grownBy W' (some g)) (hlt : g < base) : DsO base v ds W' := by
  obtain ⟨xs, h1, h2, h3, h4⟩ := h
  exact ⟨xs, h1, own_keepG h2 hg hlt, fun x hx => own_keepG (h3 x hx) hg hlt, h4⟩
theorem DsO.below {base : Nat} {v : Value} {ds : List D} {W W' : World} (h : DsO base v ds W) (hb : Below W.heap.size W W') : DsO base v ds W' := by
  obtain ⟨xs, h1, h2, h3, h4⟩ := h
  exact ⟨xs, h1, RowG.own_below h2 hb, fun x hx => RowG.own_below (h3 x hx) hb, h4⟩
theorem dso_step {base g : Nat} {v v' : Value} {xs : List DA} {ds : List D} {d : D} {la : Option Addr} {lc : Nat} {wr w1 w2 w9 : World} (hds : xs.map DA.d = ds) (hLn : ∀ x ∈ xs, LnO base x wr) (hPw : xs.Pairwise Apt) (hg1 : wr.grownBy w1 (some g)) (hgb : g < base) (hbw : base ≤ wr.heap.size)
    (hnew : w1.ownsRow wr.heap.size 45 2 (.slice la d.ls.length lc) d.ls.length (cellsAll N.cells d.ls)) (al : Below w1.heap.size w1 w2) (hO : w2.ownsRow base 25 4 v ds.length (cellsAll DA.cells xs)) (hgrow : w2.grownBy w9 v.ownBlock)
    (hown : w9.ownsRow base 25 4 v' (ds.length + 1) (cellsAll DA.cells xs ++ [.string d.a, .int .i64 d.mo, .int .i64 d.sq, .slice la d.ls.length lc])) : DsO base v' (ds ++ [d]) w9 := by
  have hk : ∀ x : DA, LnO base x w2 → LnO base x w9 := fun x hx => hx.grown hgrow (own_apart hx hO (by decide))
  refine ⟨xs ++ [⟨d, la, lc⟩], by rw [List.map_append, hds]; rfl, ?_, ?_, ?_⟩
  · rw [cellsAll_snoc, List.length_append]
    exact hown
  · intro x hx
    rcases List.mem_append.1 hx with h | h
    · exact hk x (RowG.own_below (own_keepG (hLn x h) hg1 hgb) al)
    · rw [List.mem_singleton] at h
      subst h
      exact hk ⟨d, la, lc⟩ (RowG.own_below (OwG.own_low hnew hbw) al)
  · refine List.pairwise_append.2 ⟨hPw, List.pairwise_singleton _ _, fun x hx y hy => ?_⟩
    rw [List.mem_singleton] at hy
    subst hy
    intro b h1 h2
    have p1 := (hLn x hx).lt b h1
    have p2 := hnew.lt b h2
    omega
theorem DsO.dcs {base : Nat} {v : Value} {ds : List D} {W : World} (h : DsO base v ds W) : ∃ ao cap, v = .slice ao ds.length cap ∧ Dcs ao ds W := by
  obtain ⟨xs, h1, h2, h3, _⟩ := h
  have hl : ds.length = xs.length := by rw [← h1]; simp
  rw [hl] at h2
  obtain ⟨ao, cap, rfl, hm⟩ := RowG.own_made (z := DA.zero) DA.len h2
  refine ⟨ao, cap, by rw [hl], ?_⟩
  rcases hm.rws with h0 | ⟨b, off, rfl, hb, hc⟩
  · exact .inl (by omega)
  · refine .inr ⟨b, off, rfl, hb, fun i hi => ?_⟩
    have hx : i < xs.length := by omega
    have e : ds.getD i D.zero = (xs.getD i DA.zero).d := by
      rw [← h1]
      simp [List.getD, hx]
    have hmem := RowG.getD_mem (z := DA.zero) xs i hx
    have c := hc i hx
    rw [e]
    generalize xs.getD i DA.zero = X at *
    obtain ⟨ao', cap', e', hm'⟩ := RowG.own_made (z := N.zero) N.len (h3 X hmem)
    unfold DA.v at e'
    cases e'
    exact ⟨X.la, X.lc, c 0 (by omega), c 1 (by omega), c 2 (by omega), c 3 (by omega), hm'.rws⟩
theorem doc_one (d : D) (la : Option Addr) (lc : Nat) : ∀ u ∈ ([.string d.a, .int .i64 d.mo, .int .i64 d.sq, .slice la d.ls.length lc] : List Value), u.oneCell' = true := by
  intro u hu
  simp at hu
  rcases hu with rfl | rfl | rfl | rfl <;> rfl
end LedR
end Go.Proofs.Ytppdilomefoaaaa
namespace Go.Proofs.Ytppdilomefoaaaa
open Go.ChangeShapes Go.WideShapes Go.ChangeAt Go.RowKit
set_option linter.unusedVariables false
namespace LedR
open OwG LinR DocR
open RowG (MadeG Rws cellsAll hid_intro)
open EvtR (Pt After Reads gtrans rT pT rN pN rC pC rC_le)
open CatR (Blk Blk.new)
set_option maxRecDepth 100000 in
set_option maxHeartbeats 8000000 in
theorem ilr_in (s : ByteArray) (C : Nat) (PD : Nat → Option Nat) (LD : Nat → List D) (dd : Nat → D) (en r : Bool) (w : World) (hs8 : s.size ≤ 8000) (hC : C ≤ 30)
    (rc : ∀ g w, After g s (some 0) w → Calls Try.prog 19 #[.pointer (some ⟨g, 0, none⟩), .int .i64 30] w fun e w' => e = .returned (.int .i64 C) ∧ After g s (PD 0) w' ∧ w.grownBy w' (some g))
    (rd : ∀ k g w, After g s (PD k) w → Calls Try.prog 20 #[.pointer (some ⟨g, 0, none⟩)] w fun e w' => ∃ la lc, e = .returned (.agg #[.string (dd k).a, .int .i64 (dd k).mo, .int .i64 (dd k).sq, .slice la (dd k).ls.length lc]) ∧ w'.ownsRow w.heap.size 45 2 (.slice la (dd k).ls.length lc) (dd k).ls.length (cellsAll N.cells (dd k).ls) ∧ After g s (PD (k + 1)) w' ∧ w.grownBy w' (some g))
    (hen : ∀ g W, After g s (PD C) W → Calls Try.prog 21 #[.pointer (some ⟨g, 0, none⟩)] W fun e w' => e = .returned (.bool en) ∧ Below W.heap.size W w')
    (hlr : ∀ ao cap W, Dcs ao (LD C) W → Calls Try.prog 22 #[.slice ao C cap] W fun e w' => e = .returned (.bool r) ∧ Below W.heap.size W w')
    (hL0 : LD 0 = []) (hLM : ∀ k, LD (k + 1) = LD k ++ [dd k]) (hLL : ∀ k, (LD k).length = k) :
    Calls Try.prog 6 #[.string s] w fun e w' => (((en && r) = false ∧ e = .returned (.agg #[.slice none 0 0, .string ⟨#[]⟩, .int .i64 0, .int .i64 0, .slice none 0 0, .int .i64 3])) ∨ ((en && r) = true ∧ ∃ ao cap, e = .returned (.agg #[.slice ao C cap, .string ⟨#[]⟩, .int .i64 0, .int .i64 0, .slice none 0 0, .int .i64 0]) ∧ DsO w.heap.size (.slice ao C cap) (LD C) w')) ∧ Below w.heap.size w w' := by
  obtain ⟨i0, hi, hz0, hz1, hz2⟩ := info_parts infoD
  have HRC := hid_intro rc
  have HRD := hid_intro rd
  have HEN := hid_intro hen
  have HLR := hid_intro hlr
  have HL0 := hid_intro hL0
  have HLM := hid_intro hLM
  have HLL := hid_intro hLL
  have h8 : ¬ (8000 : Int) < (s.size : Int) := by omega
  clear rc rd hen hlr hL0 hLM hLL
  obtain ⟨W0, hW0⟩ : ∃ W0, W0 = (w.alloc (.cells #[.slice none 0 0, .string ⟨#[]⟩, .int .i64 0, .int .i64 0, .slice none 0 0, .int .i64 0] 27)).alloc (.cells #[.string s, .int .i64 0, .nilIface] 50) := ⟨_, rfl⟩
  have HB0 : Hid (Below w.heap.size w W0) := hid_intro (by rw [hW0]; exact ((Below.refl _ _).alloc (Nat.le_refl _) _).alloc (by simp) _)
  have HP0 : Hid (Pt w.heap.size 6 W0) := hid_intro (by rw [hW0]; exact (StR.pt_new w [.slice none 0 0, .string ⟨#[]⟩, .int .i64 0, .int .i64 0, .slice none 0 0, .int .i64 0] 27).below ((Below.refl _ _).alloc (Nat.le_refl _) _))
  have HA0 : Hid (After (w.heap.size + 1) s (some 0) W0) := hid_intro (by rw [hW0]; exact ⟨by omega, by simp, by simp [go_sem], by simp [go_sem], by simp [go_sem], by simp [go_sem], by simp [go_sem], by simp [go_sem]⟩)
  have hS0 : w.heap.size + 2 ≤ W0.heap.size := by rw [hW0]; simp
  have HW := hid_intro hW0
  clear hW0
  go_enter Try.func6, Try.ntmps6
  go_wp2_with fail
  rw [← HW.out]
  clear HW
  refine (HRC.out _ _ HA0.out).mono ?_
  rintro e w1 ⟨rfl, hA1, hg1⟩
  have HA1 := hid_intro hA1
  have HB1 : Hid (Below w.heap.size w w1) := hid_intro (HB0.out.grown hg1 HB0.out.size (fun k e => by simp only [Option.some.injEq] at e; omega))
  have HP1 : Hid (Pt w.heap.size 6 w1) := hid_intro (StR.pt_far HP0.out hg1 (by omega))
  have hS1 : w.heap.size + 2 ≤ w1.heap.size := by have := hg1.size; omega
  have HD1 : Hid (DsO (w.heap.size + 2) (.slice none 0 0) (LD 0) w1) := hid_intro (by rw [HL0.out]; exact dso_nil _ _)
  clear hA1 hg1 HA0 HB0 HP0 hS0
  go_wp2_with fail
  go_loopw [4, 14] (fun v z wr => ∃ k : Nat, k ≤ C ∧ z = .int .i64 k ∧ Hid (After (w.heap.size + 1) s (PD k) wr) ∧ Hid (Below w.heap.size w wr) ∧ Hid (Pt w.heap.size 6 wr) ∧ Hid (w.heap.size + 2 ≤ wr.heap.size) ∧ Hid (DsO (w.heap.size + 2) v (LD k) wr)) (fun v z _ => C - (intOf z).toNat)
  case atStart => exact ⟨0, by omega, rfl, HA1, HB1, HP1, hid_intro hS1, HD1⟩
  case round =>
    clear HA1 HB1 HP1 HD1 hS1
    obtain ⟨k, hk, rfl, HA, HB, HP, HS, HD⟩ := hrel
    by_cases hlt : k < C
    · have hlt2 : (k : Int) < (C : Int) := by omega
      obtain ⟨xs, hx1, hx2, hx3, hx4⟩ := HD.out
      rw [HLL.out k] at hx2
      have HX1 := hid_intro hx1
      have HX2 := hid_intro hx2
      have HX3 := hid_intro hx3
      have HX4 := hid_intro hx4
      have HRD2 := hid_intro (HRD.out k (w.heap.size + 1) wr HA.out)
      have HDO := hid_intro (doc_one (dd k))
      have HLM2 := hid_intro (HLM.out k)
      clear hx1 hx2 hx3 hx4 HD
      have hsz1 : k + 1 ≤ maxLen := by unfold maxLen; omega
      have hsz2 : (k + 1) * 56 ≤ 140737488355328 := by omega
      go_wp2_with fail
      refine HRD2.out.mono ?_
      rintro e w2 ⟨la, lc, rfl, hn2, hA2, hg2⟩
      have HN2 := hid_intro hn2
      have HG2 := hid_intro hg2
      have HA2 := hid_intro hA2
      have HB2 : Hid (Below w.heap.size w w2) := hid_intro (HB.out.grown hg2 HB.out.size (fun k e => by simp only [Option.some.injEq] at e; omega))
      have HP2 : Hid (Pt w.heap.size 6 w2) := hid_intro (StR.pt_far HP.out hg2 (by omega))
      have HS2 : Hid (w.heap.size + 2 ≤ w2.heap.size) := hid_intro (by have := hg2.size; have := HS.out; omega)
      have HO2 := hid_intro (own_keepG HX2.out hg2 (by omega))
      clear hn2 hA2 hg2
      obtain ⟨w3, hw3⟩ : ∃ z, z = w2.alloc (.cells #[.string (dd k).a, .int .i64 (dd k).mo, .int .i64 (dd k).sq, .slice la (dd k).ls.length lc] 25) := ⟨_, rfl⟩
      have al : Below w2.heap.size w2 w3 := by rw [hw3]; exact (Below.refl _ _).alloc (Nat.le_refl _) _
      have HAL := hid_intro al
      have HO3 := hid_intro (RowG.own_below HO2.out al)
      have HNW : Hid (∀ j u, ([.string (dd k).a, .int .i64 (dd k).mo, .int .i64 (dd k).sq, .slice la (dd k).ls.length lc] : List Value)[j]? = some u → w3.cell? ((⟨w2.heap.size, 0, none⟩ : Addr).add j) = some u) := hid_intro (by rw [hw3]; exact new_cells w2 [.string (dd k).a, .int .i64 (dd k).mo, .int .i64 (dd k).sq, .slice la (dd k).ls.length lc] 25)
      have HW3 := hid_intro hw3
      have hs3 : w.heap.size + 2 ≤ w3.heap.size := by have := al.size; have := HS2.out; omega
      have HS3 := hid_intro hs3
      clear al hw3 HO2 hs3
      go_wp2_with (at_builtin; rw [← HW3.out]; refine wpList_append_own _ rfl _ _ 22 rfl (w.heap.size + 2) 25 i0 (.agg #[.string ⟨#[]⟩, .int .i64 0, .int .i64 0, .slice none 0 0]) 4 56 Try.underlying22 hi hz0 hz1 hz2 rfl (by decide) _ _ _ rfl HO3.out ⟨w2.heap.size, 0, none⟩ 1 1 [.string (dd k).a, .int .i64 (dd k).mo, .int .i64 (dd k).sq, .slice la (dd k).ls.length lc] rfl rfl HNW.out (HDO.out la lc) hsz1 hsz2 HS3.out ?_)
      intro v' w9 hown hgrow hne
      have HD9 : Hid (DsO (w.heap.size + 2) v' (LD (k + 1)) w9) := hid_intro (by
        rw [HLM2.out]
        refine dso_step HX1.out HX3.out HX4.out HG2.out (by omega) HS.out HN2.out HAL.out ?_ hgrow ?_
        · rw [HLL.out k]; exact HO3.out
        · rw [HLL.out k]; exact hown)
      have HA9 := hid_intro (after_grown (EvtR.After.below HA2.out HAL.out) hgrow (fun e => by have := (HO3.out.lt _ e.symm).1; omega))
      have HB9 : Hid (Below w.heap.size w w9) := hid_intro ((HB2.out.trans (HAL.out.mono HB2.out.size)).grown hgrow (HB2.out.trans (HAL.out.mono HB2.out.size)).size (fun k e => by have := (HO3.out.lt k e).1; omega))
      have HP9 : Hid (Pt w.heap.size 6 w9) := hid_intro (pt_row (HP2.out.below HAL.out) hgrow (fun e => by have := (HO3.out.lt _ e.symm).1; omega))
      have HS9 : Hid (w.heap.size + 2 ≤ w9.heap.size) := hid_intro (by have := hgrow.size; have := HS3.out; omega)
      clear hown hgrow hne
      go_wp2_with fail
      go_roundw
      case rel => exact ⟨k + 1, by omega, by go_num, HA9, HB9, HP9, HS9, HD9⟩
      case measure => simp [intOf]; omega
    · have hlt2 : ¬ (k : Int) < (C : Int) := by omega
      obtain rfl : k = C := by omega
      obtain ⟨ao, cap, rfl, hdc⟩ := HD.out.dcs
      have HDC := hid_intro hdc
      clear hdc
      rw [HLL.out k] at HD ⊢
      go_wp2_with fail
      refine (HEN.out _ _ HA.out).mono ?_
      rintro e w3 ⟨rfl, hb3⟩
      have HB3 := hid_intro (HB.out.trans (hb3.mono HB.out.size))
      have HP3 := hid_intro (HP.out.below hb3)
      have HD3 := hid_intro (HD.out.below hb3)
      have HC3 := hid_intro (HDC.out.below hb3)
      clear hb3 HB HP HD HDC HEN
      cases en
      · have hp9 := HP3.out
        have hl9 := hp9.lt
        obtain ⟨ov0, r0⟩ := hp9.has 0 (by omega)
        have f0 := hp9.free 0 (by omega)
        obtain ⟨ov1, r1⟩ := hp9.has 1 (by omega)
        have f1 := hp9.free 1 (by omega)
        obtain ⟨ov2, r2⟩ := hp9.has 2 (by omega)
        have f2 := hp9.free 2 (by omega)
        obtain ⟨ov3, r3⟩ := hp9.has 3 (by omega)
        have f3 := hp9.free 3 (by omega)
        obtain ⟨ov4, r4⟩ := hp9.has 4 (by omega)
        have f4 := hp9.free 4 (by omega)
        obtain ⟨ov5, r5⟩ := hp9.has 5 (by omega)
        have f5 := hp9.free 5 (by omega)
        have hgf := StR.stL_grown w.heap.size [.slice none 0 0, .string ⟨#[]⟩, .int .i64 0, .int .i64 0, .slice none 0 0, .int .i64 3] 0 w3
        have HBF := hid_intro (HB3.out.grown hgf HB3.out.size (fun k e => by simp only [Option.some.injEq] at e; omega))
        simp only [StR.stL, Nat.zero_add, Nat.reduceAdd] at HBF
        clear hgf hp9
        go_wp2_with fail
        refine bodyPost_ret (v := .agg #[.slice none 0 0, .string ⟨#[]⟩, .int .i64 0, .int .i64 0, .slice none 0 0, .int .i64 3]) (by simp [results, Try.results6, go_sem, r0, r1, r2, r3, r4, r5]) rfl ⟨.inl ⟨rfl, rfl⟩, HBF.out⟩
      go_wp2_with fail
      refine (HLR.out ao cap _ HC3.out).mono ?_
      rintro e w4 ⟨rfl, hb4⟩
      have HB4 := hid_intro (HB3.out.trans (hb4.mono HB3.out.size))
      have HP4 := hid_intro (HP3.out.below hb4)
      have HD4 := hid_intro (HD3.out.below hb4)
      clear hb4 HB3 HP3 HD3 HLR
      cases r
      · have hp9 := HP4.out
        have hl9 := hp9.lt
        obtain ⟨ov0, r0⟩ := hp9.has 0 (by omega)
        have f0 := hp9.free 0 (by omega)
        obtain ⟨ov1, r1⟩ := hp9.has 1 (by omega)
        have f1 := hp9.free 1 (by omega)
        obtain ⟨ov2, r2⟩ := hp9.has 2 (by omega)
        have f2 := hp9.free 2 (by omega)
        obtain ⟨ov3, r3⟩ := hp9.has 3 (by omega)
        have f3 := hp9.free 3 (by omega)
        obtain ⟨ov4, r4⟩ := hp9.has 4 (by omega)
        have f4 := hp9.free 4 (by omega)
        obtain ⟨ov5, r5⟩ := hp9.has 5 (by omega)
        have f5 := hp9.free 5 (by omega)
        have hgf := StR.stL_grown w.heap.size [.slice none 0 0, .string ⟨#[]⟩, .int .i64 0, .int .i64 0, .slice none 0 0, .int .i64 3] 0 w4
        have HBF := hid_intro (HB4.out.grown hgf HB4.out.size (fun k e => by simp only [Option.some.injEq] at e; omega))
        simp only [StR.stL, Nat.zero_add, Nat.reduceAdd] at HBF
        clear hgf hp9
        go_wp2_with fail
        refine bodyPost_ret (v := .agg #[.slice none 0 0, .string ⟨#[]⟩, .int .i64 0, .int .i64 0, .slice none 0 0, .int .i64 3]) (by simp [results, Try.results6, go_sem, r0, r1, r2, r3, r4, r5]) rfl ⟨.inl ⟨rfl, rfl⟩, HBF.out⟩
      have hp9 := HP4.out
      have hl9 := hp9.lt
      obtain ⟨ov0, r0⟩ := hp9.has 0 (by omega)
      have f0 := hp9.free 0 (by omega)
      obtain ⟨ov1, r1⟩ := hp9.has 1 (by omega)
      have f1 := hp9.free 1 (by omega)
      obtain ⟨ov2, r2⟩ := hp9.has 2 (by omega)
      have f2 := hp9.free 2 (by omega)
      obtain ⟨ov3, r3⟩ := hp9.has 3 (by omega)
      have f3 := hp9.free 3 (by omega)
      obtain ⟨ov4, r4⟩ := hp9.has 4 (by omega)
      have f4 := hp9.free 4 (by omega)
      obtain ⟨ov5, r5⟩ := hp9.has 5 (by omega)
      have f5 := hp9.free 5 (by omega)
      have hgf := StR.stL_grown w.heap.size [.slice ao k cap, .string ⟨#[]⟩, .int .i64 0, .int .i64 0, .slice none 0 0, .int .i64 0] 0 w4
      have HBF := hid_intro (HB4.out.grown hgf HB4.out.size (fun k e => by simp only [Option.some.injEq] at e; omega))
      have HDF := hid_intro (HD4.out.far hgf (by omega))
      simp only [StR.stL, Nat.zero_add, Nat.reduceAdd] at HBF HDF
      clear hgf hp9
      go_wp2_with fail
      refine bodyPost_ret (v := .agg #[.slice ao k cap, .string ⟨#[]⟩, .int .i64 0, .int .i64 0, .slice none 0 0, .int .i64 0]) (by simp [results, Try.results6, go_sem, r0, r1, r2, r3, r4, r5]) rfl ⟨.inr ⟨rfl, ao, cap, rfl, HDF.out.low (by omega)⟩, HBF.out⟩
end LedR
end Go.Proofs.Ytppdilomefoaaaa
