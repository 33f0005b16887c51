/-
  Windows that the law is given: the law's own copies, and windows held against each other. The condition: at most 1048576 of each.
  Windows that the law is given: the law's own copies, and windows held against each other. The condition: at most 1048576 of each.
  Tiers, meters, credits and catalogs as rows of cells. No condition.
-/
import Derived.Test.YtcilbmhkhllmjaaGreatDoorB2
namespace Go.Proofs.YtcilbmhkhllmjaaGreatDoor
open Go.ChangeShapes Go.WideShapes Go.ChangeAt Go.RowKit
set_option linter.unusedVariables false
namespace WinR
open RowG
open EvtR (Pt)
theorem infoT : (Tryz.prog.info? 9).map (fun i => (i.zero, i.size, i.bytes)) = some (some (.string ⟨#[]⟩), 1, 16) := by kernel_rfl
theorem infoH : (Tryz.prog.info? 149).map (fun i => (i.zero, i.size, i.bytes)) = some (some (.agg #[.int .i64 0, .int .i64 0]), 2, 16) := by kernel_rfl
theorem row_full {w : World} {base e g n s : Nat} {xs : List Value} (h : w.ownsRow base e s (.slice (some ⟨g, 0, none⟩) n n) n xs) : Pt g (n * s) w := by
  rcases h.2 with ⟨h1, _⟩ | ⟨g', cap, cur, h1, _, hg, _, _, hs, _⟩
  · simp at h1
  · simp at h1
    obtain ⟨rfl, rfl⟩ := h1
    refine ⟨(Array.getElem?_eq_some_iff.1 hg).1, fun o ho => ⟨cur[o]'(by omega), ?_⟩, fun o ho => ?_⟩
    · have : o < cur.size := by omega
      simp [World.cell?, hg, this]
    · simp [World.frozen?, hg]
theorem fill_step {f : Nat → Option Value} {w wr : World} {m j : Nat} (hb : Below w.heap.size w wr) (hp : Pt w.heap.size m wr) (hw : Wr f j w.heap.size wr) (hj : j < m) (v : Value) (hv : f j = some v) :
    Below w.heap.size w (wr.setCell ⟨w.heap.size, j, none⟩ v) ∧ Pt w.heap.size m (wr.setCell ⟨w.heap.size, j, none⟩ v) ∧ Wr f (j + 1) w.heap.size (wr.setCell ⟨w.heap.size, j, none⟩ v) :=
  ⟨hb.setCell (Nat.le_refl _) _, hp.set _ _, hw.more hp hj v hv⟩
theorem cellT (ts : List ByteArray) (o : Nat) : cellAt 1 tcells tz ts o = some (.string (ts.getD o tz)) := by
  unfold cellAt
  rw [Nat.div_one, Nat.mod_one]
  rfl
set_option maxRecDepth 100000 in
set_option maxHeartbeats 4000000 in
theorem toTs_any (ao : Option Addr) (cap : Nat) (ts : List ByteArray) (w : World) (hlen : ts.length ≤ 1048576) (hI : Tgs ao ts w) :
    Calls Tryz.prog 88 #[.slice ao ts.length cap] w fun e w' => e = .returned (.slice (some ⟨w.heap.size, 0, none⟩) ts.length ts.length) ∧ Tgs (some ⟨w.heap.size, 0, none⟩) ts w' ∧ Pt w.heap.size ts.length w' ∧ Below w.heap.size w w' := by
  obtain ⟨i0, hi, hz0, hz1, hz2⟩ := info_parts infoT
  have HI := hid_intro hI
  have HWS : Hid (∀ wr, Wr (cellAt 1 tcells tz ts) (ts.length * 1) w.heap.size wr → w.heap.size < wr.heap.size → Tgs (some ⟨w.heap.size, 0, none⟩) ts wr) := hid_intro (fun wr h hl => Wr.rws h hl)
  obtain ⟨len, hl⟩ : ∃ len, len = ts.length := ⟨_, rfl⟩
  rw [← hl] at hlen HWS ⊢
  have HL := hid_intro hl
  clear hI hl
  go_enter Tryz.func88, Tryz.ntmps88
  go_wp2_with (at_make; refine wpList_make_full _ rfl _ _ 64 rfl w.heap.size 9 i0 (.string ⟨#[]⟩) 1 Tryz.underlying64 hi hz0 hz1 .i64 .i64 _ _ len rfl rfl rfl rfl ?b2 ?b3 ?b4 ?_)
  case b2 => rw [hz2]; omega
  case b3 => unfold maxLen; omega
  case b4 => exact Nat.le_refl _
  intro wm hown hgrow
  have HB0 : Hid (Below w.heap.size w wm) := hid_intro ((Below.refl _ _).grown hgrow (Nat.le_refl _) (fun k e => by cases e))
  have HP0 := hid_intro (row_full hown)
  clear hown hgrow hi hz0 hz1 hz2
  go_wp2_with fail
  go_loopw [4] (fun z wr => ∃ k : Nat, k ≤ len ∧ z = .int .i64 k ∧ Hid (Below w.heap.size w wr) ∧ Hid (Pt w.heap.size (len * 1) wr) ∧ Hid (Wr (cellAt 1 tcells tz ts) k w.heap.size wr)) (fun z _ => len - (intOf z).toNat)
  case atStart => exact ⟨0, by omega, rfl, HB0, HP0, hid_intro (fun o ho => absurd ho (by omega))⟩
  case round =>
    obtain ⟨k, hk, rfl, HB, HP, HW⟩ := hrel
    by_cases hlt : k < len
    · have hlt2 : (k : Int) < (len : Int) := by omega
      obtain ⟨b, off, rfl, hbl, c0⟩ := (HI.out.below HB.out).at k (by have := HL.out; omega)
      have HS0 := hid_intro (fill_step HB.out HP.out HW.out (by omega) (.string (ts.getD k tz)) (cellT ts k))
      generalize ts.getD k tz = X at *
      obtain ⟨v0, d0⟩ := HP.out.has k (by omega)
      have z0 := HP.out.free k (by omega)
      go_wp2_with fail
      go_roundw
      case rel => exact ⟨k + 1, by omega, by go_num, hid_intro HS0.out.1, hid_intro HS0.out.2.1, hid_intro HS0.out.2.2⟩
      case measure => simp [intOf]; omega
    · have hlt2 : ¬ (k : Int) < (len : Int) := by omega
      obtain rfl : k = len := by omega
      go_wp2_with fail
      go_ret
      exact ⟨rfl, HWS.out _ (by rw [Nat.mul_one]; exact HW.out) HP.out.lt, (by have h := HP.out; rwa [Nat.mul_one] at h), HB.out⟩
theorem toHour_any (h s : Int) (w : World) :
    Calls Tryz.prog 118 #[.agg #[.int .i64 h, .int .i64 s]] w fun e w' => e = .returned (.agg #[.int .i64 h, .int .i64 s]) ∧ Below w.heap.size w w' := by
  go_enter Tryz.func118, Tryz.ntmps118
  go_wp2_with fail
  refine bodyPost_ret (v := .agg #[.int .i64 h, .int .i64 s]) (by simp [results, Tryz.results118, go_sem]) rfl ⟨rfl, ?_⟩
  repeat' first | exact Below.refl _ _ | apply Below.setCell | apply Below.alloc
  all_goals first | omega | (simp; done) | (simp; omega)
set_option maxRecDepth 100000 in
set_option maxHeartbeats 4000000 in
theorem toHs_any (ao : Option Addr) (cap : Nat) (hs : List H) (w : World) (hlen : hs.length ≤ 1048576) (hI : Hrs ao hs w) :
    Calls Tryz.prog 89 #[.slice ao hs.length cap] w fun e w' => e = .returned (.slice (some ⟨w.heap.size, 0, none⟩) hs.length hs.length) ∧ Hrs (some ⟨w.heap.size, 0, none⟩) hs w' ∧ Pt w.heap.size (hs.length * 2) w' ∧ Below w.heap.size w w' := by
  obtain ⟨i0, hi, hz0, hz1, hz2⟩ := info_parts infoH
  have HI := hid_intro hI
  have HWS : Hid (∀ wr, Wr (cellAt 2 H.cells H.zero hs) (hs.length * 2) w.heap.size wr → w.heap.size < wr.heap.size → Hrs (some ⟨w.heap.size, 0, none⟩) hs wr) := hid_intro (fun wr h hl => Wr.rws h hl)
  obtain ⟨len, hl⟩ : ∃ len, len = hs.length := ⟨_, rfl⟩
  rw [← hl] at hlen HWS ⊢
  have HL := hid_intro hl
  clear hI hl
  go_enter Tryz.func89, Tryz.ntmps89
  go_wp2_with (at_make; refine wpList_make_full _ rfl _ _ 72 rfl w.heap.size 149 i0 (.agg #[.int .i64 0, .int .i64 0]) 2 Tryz.underlying72 hi hz0 hz1 .i64 .i64 _ _ len rfl rfl rfl rfl ?b2 ?b3 ?b4 ?_)
  case b2 => rw [hz2]; omega
  case b3 => unfold maxLen; omega
  case b4 => exact Nat.le_refl _
  intro wm hown hgrow
  have HB0 : Hid (Below w.heap.size w wm) := hid_intro ((Below.refl _ _).grown hgrow (Nat.le_refl _) (fun k e => by cases e))
  have HP0 := hid_intro (row_full hown)
  clear hown hgrow hi hz0 hz1 hz2
  go_wp2_with fail
  go_loopw [4] (fun z wr => ∃ k : Nat, k ≤ len ∧ z = .int .i64 k ∧ Hid (Below w.heap.size w wr) ∧ Hid (Pt w.heap.size (len * 2) wr) ∧ Hid (Wr (cellAt 2 H.cells H.zero hs) (k * 2) w.heap.size wr)) (fun z _ => len - (intOf z).toNat)
  case atStart => exact ⟨0, by omega, rfl, HB0, HP0, hid_intro (fun o ho => absurd ho (by omega))⟩
  case round =>
    obtain ⟨k, hk, rfl, HB, HP, HW⟩ := hrel
    by_cases hlt : k < len
    · have hlt2 : (k : Int) < (len : Int) := by omega
      obtain ⟨b, off, rfl, hbl, c0, c1⟩ := (HI.out.below HB.out).at k (by have := HL.out; omega)
      have HX := hid_intro (cellAt_of (k := 2) (cells := H.cells) (z := H.zero) (xs := hs) k)
      generalize hs.getD k H.zero = X at *
      obtain ⟨xh, xs⟩ := X
      have HC := hid_intro (fun w => toHour_any xh xs w)
      go_wp2_with fail
      refine (HC.out _).mono ?_
      rintro e w1 ⟨rfl, hb⟩
      replace HW := hid_intro (HW.out.below HP.out hb)
      replace HP := hid_intro (HP.out.below hb)
      replace HB := hid_intro (HB.out.trans (hb.mono HB.out.size))
      have HS0 := hid_intro (fill_step HB.out HP.out HW.out (by omega) (.int .i64 xh) (HX.out 0 (by omega)))
      have HS1 := hid_intro (fill_step HS0.out.1 HS0.out.2.1 HS0.out.2.2 (by omega) (.int .i64 xs) (HX.out 1 (by omega)))
      obtain ⟨v0, d0⟩ := HP.out.has (k * 2) (by omega)
      obtain ⟨v1, d1⟩ := HP.out.has (k * 2 + 1) (by omega)
      have z0 := HP.out.free (k * 2) (by omega)
      have z1 := HP.out.free (k * 2 + 1) (by omega)
      clear hb c0 c1 HX HS0
      go_wp2_with fail
      go_roundw
      case rel => exact ⟨k + 1, by omega, by go_num, hid_intro HS1.out.1, hid_intro HS1.out.2.1, hid_intro (by rw [show (k + 1) * 2 = k * 2 + 1 + 1 by omega]; exact HS1.out.2.2)⟩
      case measure => simp [intOf]; omega
    · have hlt2 : ¬ (k : Int) < (len : Int) := by omega
      obtain rfl : k = len := by omega
      go_wp2_with fail
      go_ret
      exact ⟨rfl, HWS.out _ HW.out HP.out.lt, HP.out, HB.out⟩
set_option maxHeartbeats 4000000 in
theorem eqTs_any (ao bo : Option Addr) (cap cap' : Nat) (ts : List ByteArray) (w : World) (hlen : ts.length ≤ 1048576) (hI : Tgs ao ts w) (hJ : Tgs bo ts w) :
    Calls Tryz.prog 103 #[.slice ao ts.length cap, .slice bo ts.length cap'] w fun e w' => e = .returned (.bool true) ∧ Below w.heap.size w w' := by
  have HI := hid_intro hI
  have HJ := hid_intro hJ
  obtain ⟨len, hl⟩ : ∃ len, len = ts.length := ⟨_, rfl⟩
  rw [← hl] at hlen ⊢
  have HL := hid_intro hl
  clear hI hJ hl
  go_enter Tryz.func103, Tryz.ntmps103
  go_wp2_with fail
  go_loopw [5] (fun z wr => ∃ k : Nat, k ≤ len ∧ z = .int .i64 k ∧ Hid (Below w.heap.size w wr)) (fun z _ => len - (intOf z).toNat)
  case atStart => exact ⟨0, by omega, rfl, hid_intro (Below.refl _ _)⟩
  case round =>
    obtain ⟨k, hk, rfl, HW⟩ := hrel
    by_cases hlt : k < len
    · have hlt2 : (k : Int) < (len : Int) := by omega
      obtain ⟨b, off, rfl, _, c0⟩ := (HI.out.below HW.out).at k (by have := HL.out; omega)
      obtain ⟨b', off', rfl, _, e0⟩ := (HJ.out.below HW.out).at k (by have := HL.out; omega)
      generalize ts.getD k tz = X at *
      go_wp2_with fail
      try (go_quiet (fail); go_wp2_with fail)
      go_roundw
      case rel => exact ⟨k + 1, by omega, by go_num, hid_intro (by first | exact HW.out | exact bdN HW.out _)⟩
      case measure => simp [intOf]; omega
    · have hlt2 : ¬ (k : Int) < (len : Int) := by omega
      go_wp2_with fail
      go_ret
      exact ⟨rfl, HW.out⟩
theorem eqHour_any (h s : Int) (w : World) : Calls Tryz.prog 134 #[.agg #[.int .i64 h, .int .i64 s], .agg #[.int .i64 h, .int .i64 s]] w fun e w' => e = .returned (.bool true) ∧ Below w.heap.size w w' := by
  go_enter Tryz.func134, Tryz.ntmps134
  go_wp2
  go_ret
  refine ⟨rfl, ?_⟩
  repeat' first | exact Below.refl _ _ | apply Below.setCell | apply Below.alloc
  all_goals first | omega | (simp; done) | (simp; omega)
set_option maxHeartbeats 4000000 in
theorem eqHs_any (ao bo : Option Addr) (cap cap' : Nat) (hs : List H) (w : World) (hlen : hs.length ≤ 1048576) (hI : Hrs ao hs w) (hJ : Hrs bo hs w) :
    Calls Tryz.prog 104 #[.slice ao hs.length cap, .slice bo hs.length cap'] w fun e w' => e = .returned (.bool true) ∧ Below w.heap.size w w' := by
  have HI := hid_intro hI
  have HJ := hid_intro hJ
  obtain ⟨len, hl⟩ : ∃ len, len = hs.length := ⟨_, rfl⟩
  rw [← hl] at hlen ⊢
  have HL := hid_intro hl
  clear hI hJ hl
  go_enter Tryz.func104, Tryz.ntmps104
  go_wp2_with fail
  go_loopw [5] (fun z wr => ∃ k : Nat, k ≤ len ∧ z = .int .i64 k ∧ Hid (Below w.heap.size w wr)) (fun z _ => len - (intOf z).toNat)
  case atStart => exact ⟨0, by omega, rfl, hid_intro (Below.refl _ _)⟩
  case round =>
    obtain ⟨k, hk, rfl, HW⟩ := hrel
    by_cases hlt : k < len
    · have hlt2 : (k : Int) < (len : Int) := by omega
      obtain ⟨b, off, rfl, _, c0, c1⟩ := (HI.out.below HW.out).at k (by have := HL.out; omega)
      obtain ⟨b', off', rfl, _, e0, e1⟩ := (HJ.out.below HW.out).at k (by have := HL.out; omega)
      generalize hs.getD k H.zero = X at *
      obtain ⟨xh, xs⟩ := X
      have HC := hid_intro (fun w => eqHour_any xh xs w)
      go_wp2_with fail
      go_region_with (go_at_call 134; refine (HC.out _).mono ?_; rintro e w1 ⟨rfl, hb⟩)
      all_goals (
        have HB1 := hid_intro (HW.out.drew.trans (hb.mono HW.out.drew.size))
        clear hb c0 c1 e0 e1
        go_wp2_with fail
        go_roundw
        case rel => exact ⟨k + 1, by omega, by go_num, HB1⟩
        case measure => simp [intOf]; omega)
    · have hlt2 : ¬ (k : Int) < (len : Int) := by omega
      go_wp2_with fail
      go_ret
      exact ⟨rfl, HW.out⟩
end WinR
end Go.Proofs.YtcilbmhkhllmjaaGreatDoor
namespace Go.Proofs.YtcilbmhkhllmjaaGreatDoor
open Go.ChangeShapes Go.WideShapes Go.ChangeAt Go.RowKit
set_option linter.unusedVariables false
namespace WinR
open RowG
open EvtR (Pt)
open CatR (Blk Blk.new)
/-- A block that may be written. -/
def BlkW (b : Nat) (cs : List Value) (w : World) : Prop := Blk b cs w ∧ ∀ i, i < cs.length → w.frozen? ⟨b, i, none⟩ = false
theorem BlkW.below {b : Nat} {cs : List Value} {w w' : World} (h : BlkW b cs w) (hb : Below w.heap.size w w') : BlkW b cs w' :=
  ⟨h.1.below hb, fun i hi => (hb.frozen (p := ⟨b, i, none⟩) h.1.1).trans (h.2 i hi)⟩
theorem BlkW.new (w : World) (cs : List Value) (T : TypeId) : BlkW w.heap.size cs (w.alloc (.cells cs.toArray T)) :=
  ⟨Blk.new w cs T, fun i hi => by simp [go_sem]⟩
theorem BlkW.set {b : Nat} {cs : List Value} {w : World} (h : BlkW b cs w) (o : Nat) (v : Value) (ho : o < cs.length) : BlkW b (cs.set o v) (w.setCell ⟨b, o, none⟩ v) := by
  obtain ⟨⟨hl, hc⟩, hf⟩ := h
  refine ⟨⟨by simpa using hl, fun i hi => ?_⟩, fun i hi => ?_⟩
  · rw [List.length_set] at hi
    by_cases e : o = i
    · subst e
      have := hc o hi
      rw [List.getElem?_eq_getElem hi] at this
      rw [List.getElem?_set_self ho]
      simp [go_sem, this]
    · rw [List.getElem?_set_ne e, ← hc i hi]
      simp [go_sem]
  · rw [List.length_set] at hi
    have := hf i hi
    simp [go_sem, this]
theorem BlkW.other {b : Nat} {cs : List Value} {w : World} (h : BlkW b cs w) (g o : Nat) (v : Value) (hg : g ≠ b) : BlkW b cs (w.setCell ⟨g, o, none⟩ v) := by
  have e := (grown_set w g o v).block b h.1.1 (by simp; exact fun q => hg q.symm)
  exact ⟨⟨by simpa using h.1.1, fun i hi => (World.cell?_of_block (a := ⟨b, i, none⟩) e).trans (h.1.2 i hi)⟩, fun i hi => (World.frozen?_of_block (a := ⟨b, i, none⟩) e).trans (h.2 i hi)⟩
theorem Rws.put {α : Type} {k : Nat} {cells : α → List Value} {z : α} {ao : Option Addr} {xs : List α} {w : World} (h : Rws k cells z ao xs w) (g o : Nat) (v : Value) (hne : xs.length = 0 ∨ ∀ b off, ao = some ⟨b, off, none⟩ → b ≠ g) : Rws k cells z ao xs (w.setCell ⟨g, o, none⟩ v) :=
  h.grown (grown_set w g o v) (hne.imp id (fun hn b off e q => hn b off e (by simpa using q)))
theorem MadeG.put {α : Type} {k : Nat} {cells : α → List Value} {z : α} {base : Nat} {ao : Option Addr} {xs : List α} {w : World} (h : MadeG k cells z base ao xs w) (g o : Nat) (v : Value) (hne : xs.length = 0 ∨ ∀ b off, ao = some ⟨b, off, none⟩ → b ≠ g) : MadeG k cells z base ao xs (w.setCell ⟨g, o, none⟩ v) := by
  refine ⟨Rws.put h.rws g o v hne, ?_⟩
  rcases h.own with h0 | ⟨b, e1, e2, e3⟩
  · exact .inl h0
  · rcases hne with h0 | hn
    · exact .inl h0
    have e := (grown_set w g o v).block b e3.lt (by simp; exact fun q => hn b 0 e1 q)
    exact .inr ⟨b, e1, e2, by simpa using e3.lt, fun x hx => by obtain ⟨u, hu⟩ := e3.has x hx; exact ⟨u, (World.cell?_of_block (a := ⟨b, x, none⟩) e).trans hu⟩, fun x hx => (World.frozen?_of_block (a := ⟨b, x, none⟩) e).trans (e3.free x hx)⟩
/-- Two lists lie apart. -/
def Apart (ta ha : Option Addr) (tl hl : Nat) : Prop := tl = 0 ∨ hl = 0 ∨ ∀ b o b' o', ta = some ⟨b, o, none⟩ → ha = some ⟨b', o', none⟩ → b ≠ b'
/-- A window that a call has made. -/
def MadeW (base : Nat) (x : Wd) (v : Value) (w : World) : Prop := ∃ ta tc ha hc, v = .agg (wcells x ta tc ha hc) ∧ MadeG 1 tcells tz base ta x.ts w ∧ MadeG 2 H.cells H.zero base ha x.hs w ∧ Apart ta ha x.ts.length x.hs.length
theorem MadeW.below {base : Nat} {x : Wd} {v : Value} {w w' : World} (h : MadeW base x v w) (hb : Below w.heap.size w w') : MadeW base x v w' := by
  obtain ⟨ta, tc, ha, hc, hv, h1, h2, h3⟩ := h
  exact ⟨ta, tc, ha, hc, hv, h1.below hb, h2.below hb, h3⟩
theorem MadeW.low {base base' : Nat} {x : Wd} {v : Value} {w : World} (h : MadeW base x v w) (hb : base' ≤ base) : MadeW base' x v w := by
  obtain ⟨ta, tc, ha, hc, hv, h1, h2, h3⟩ := h
  exact ⟨ta, tc, ha, hc, hv, h1.low hb, h2.low hb, h3⟩
theorem MadeW.is {base : Nat} {x : Wd} {v : Value} {w : World} (h : MadeW base x v w) : IsWd v x w := by
  obtain ⟨ta, tc, ha, hc, hv, h1, h2, h3⟩ := h
  exact ⟨ta, tc, ha, hc, hv, h1.rws, h2.rws⟩
set_option maxRecDepth 100000 in
set_option maxHeartbeats 8000000 in
theorem toW_in (a m : ByteArray) (mo ev su mx : Int) (ta : Option Addr) (ts : List ByteArray) (tc : Nat) (ha : Option Addr) (hs : List H) (hc : Nat) (w : World) (ht : ts.length ≤ 1048576) (hh : hs.length ≤ 1048576) (hT : Tgs ta ts w) (hH : Hrs ha hs w) :
    Calls Tryz.prog 40 #[.agg #[.string a, .string m, .int .i64 mo, .int .i64 ev, .int .i64 su, .int .i64 mx, .slice ta ts.length tc, .slice ha hs.length hc]] w fun e w' => ∃ v, e = .returned v ∧ MadeW w.heap.size ⟨a, m, mo, ev, su, mx, ts, hs⟩ v w' ∧ Below w.heap.size w w' := by
  have H1 := hid_intro (fun W (hW : Below w.heap.size w W) => toTs_any ta tc ts W ht (hT.below hW))
  have H2 := hid_intro (fun W (hW : Below w.heap.size w W) => toHs_any ha hc hs W hh (hH.below hW))
  have HF : Hid (∀ W g1 g2, w.heap.size ≤ g1 → w.heap.size ≤ g2 → g1 ≠ g2 → MadeG 1 tcells tz g1 (some ⟨g1, 0, none⟩) ts W → MadeG 2 H.cells H.zero g2 (some ⟨g2, 0, none⟩) hs W → MadeW w.heap.size ⟨a, m, mo, ev, su, mx, ts, hs⟩ (.agg #[.string a, .string m, .int .i64 mo, .int .i64 ev, .int .i64 su, .int .i64 mx, .slice (some ⟨g1, 0, none⟩) ts.length ts.length, .slice (some ⟨g2, 0, none⟩) hs.length hs.length]) W) := hid_intro (fun W g1 g2 l1 l2 hn m1 m2 =>
    ⟨_, _, _, _, rfl, m1.low l1, m2.low l2, .inr (.inr (fun b o b' o' e1 e2 => by simp at e1 e2; omega))⟩)
  generalize MadeW w.heap.size ⟨a, m, mo, ev, su, mx, ts, hs⟩ = M at *
  obtain ⟨tl, htl⟩ : ∃ tl, tl = ts.length := ⟨_, rfl⟩
  obtain ⟨hl, hhl⟩ : ∃ hl, hl = hs.length := ⟨_, rfl⟩
  have HTL := hid_intro htl
  have HHL := hid_intro hhl
  rw [← htl] at ht H1 HF ⊢
  rw [← hhl] at hh H2 HF ⊢
  clear hT hH htl hhl
  have HB0 : Hid (Below w.heap.size w (((w.alloc (.cells #[.string a, .string m, .int .i64 mo, .int .i64 ev, .int .i64 su, .int .i64 mx, .slice ta tl tc, .slice ha hl hc] 67)).alloc (.cells #[.string ⟨#[]⟩, .string ⟨#[]⟩, .int .i64 0, .int .i64 0, .int .i64 0, .int .i64 0, .slice none 0 0, .slice none 0 0] 74)).alloc (.cells #[.string a, .string m, .int .i64 mo, .int .i64 ev, .int .i64 su, .int .i64 mx, .slice none 0 0, .slice none 0 0] 74))) := hid_intro ((((Below.refl _ _).alloc (Nat.le_refl _) _).alloc (by simp) _).alloc (by simp; omega) _)
  have HX0 := hid_intro (((BlkW.new w [.string a, .string m, .int .i64 mo, .int .i64 ev, .int .i64 su, .int .i64 mx, .slice ta tl tc, .slice ha hl hc] 67).below ((Below.refl _ _).alloc (Nat.le_refl _) (Obj.cells #[.string ⟨#[]⟩, .string ⟨#[]⟩, .int .i64 0, .int .i64 0, .int .i64 0, .int .i64 0, .slice none 0 0, .slice none 0 0] 74))).below ((Below.refl _ _).alloc (Nat.le_refl _) (Obj.cells #[.string a, .string m, .int .i64 mo, .int .i64 ev, .int .i64 su, .int .i64 mx, .slice none 0 0, .slice none 0 0] 74)))
  have HY0 := hid_intro ((BlkW.new (w.alloc (.cells #[.string a, .string m, .int .i64 mo, .int .i64 ev, .int .i64 su, .int .i64 mx, .slice ta tl tc, .slice ha hl hc] 67)) [.string ⟨#[]⟩, .string ⟨#[]⟩, .int .i64 0, .int .i64 0, .int .i64 0, .int .i64 0, .slice none 0 0, .slice none 0 0] 74).below ((Below.refl _ _).alloc (Nat.le_refl _) (Obj.cells #[.string a, .string m, .int .i64 mo, .int .i64 ev, .int .i64 su, .int .i64 mx, .slice none 0 0, .slice none 0 0] 74)))
  have HZ0 := hid_intro (BlkW.new ((w.alloc (.cells #[.string a, .string m, .int .i64 mo, .int .i64 ev, .int .i64 su, .int .i64 mx, .slice ta tl tc, .slice ha hl hc] 67)).alloc (.cells #[.string ⟨#[]⟩, .string ⟨#[]⟩, .int .i64 0, .int .i64 0, .int .i64 0, .int .i64 0, .slice none 0 0, .slice none 0 0] 74)) [.string a, .string m, .int .i64 mo, .int .i64 ev, .int .i64 su, .int .i64 mx, .slice none 0 0, .slice none 0 0] 74)
  have e1 : (w.alloc (.cells #[.string a, .string m, .int .i64 mo, .int .i64 ev, .int .i64 su, .int .i64 mx, .slice ta tl tc, .slice ha hl hc] 67)).heap.size = w.heap.size + 1 := by simp
  have e2 : ((w.alloc (.cells #[.string a, .string m, .int .i64 mo, .int .i64 ev, .int .i64 su, .int .i64 mx, .slice ta tl tc, .slice ha hl hc] 67)).alloc (.cells #[.string ⟨#[]⟩, .string ⟨#[]⟩, .int .i64 0, .int .i64 0, .int .i64 0, .int .i64 0, .slice none 0 0, .slice none 0 0] 74)).heap.size = w.heap.size + 1 + 1 := by simp
  rw [e1] at HY0
  rw [e2] at HZ0
  clear e1 e2
  go_enter Tryz.func40, Tryz.ntmps40
  go_wp2_with fail
  refine (H1.out _ HB0.out).mono ?_
  rintro e w1 ⟨rfl, hT1, hP1, hb1⟩
  have HM1 := hid_intro (show MadeG 1 tcells tz _ _ ts w1 from ⟨hT1, .inr ⟨_, rfl, Nat.le_refl _, by rw [Nat.mul_one]; exact HTL.out ▸ hP1⟩⟩)
  obtain ⟨g1, hg1⟩ : ∃ g1, g1 = (((w.alloc (.cells #[.string a, .string m, .int .i64 mo, .int .i64 ev, .int .i64 su, .int .i64 mx, .slice ta tl tc, .slice ha hl hc] 67)).alloc (.cells #[.string ⟨#[]⟩, .string ⟨#[]⟩, .int .i64 0, .int .i64 0, .int .i64 0, .int .i64 0, .slice none 0 0, .slice none 0 0] 74)).alloc (.cells #[.string a, .string m, .int .i64 mo, .int .i64 ev, .int .i64 su, .int .i64 mx, .slice none 0 0, .slice none 0 0] 74)).heap.size := ⟨_, rfl⟩
  have HG1 : Hid (w.heap.size + 3 = g1) := hid_intro (by rw [hg1]; simp)
  have HG1b : Hid (g1 < w1.heap.size) := hid_intro (by rw [hg1]; exact hP1.lt)
  rw [← hg1] at HM1 ⊢
  clear hg1
  have HX1 := hid_intro (HX0.out.below hb1)
  have HY1 := hid_intro ((HY0.out.below hb1).other (w.heap.size + 1 + 1) 6 (.slice (some ⟨g1, 0, none⟩) tl tl) (by omega))
  have HZ1 := hid_intro ((HZ0.out.below hb1).set 6 (.slice (some ⟨g1, 0, none⟩) tl tl) (by simp))
  have HZ1' := hid_intro (HZ0.out.below hb1)
  have HB1 : Hid (Below w.heap.size w (w1.setCell ⟨w.heap.size + 1 + 1, 6, none⟩ (.slice (some ⟨g1, 0, none⟩) tl tl))) := hid_intro ((HB0.out.trans (hb1.mono HB0.out.size)).setCell (by simp; omega) _)
  obtain ⟨⟨xl, xc⟩, _⟩ := HX1.out
  have x7 : w1.cell? ⟨w.heap.size, 7, none⟩ = some (.slice ha hl hc) := xc 7 (by simp)
  obtain ⟨⟨zl, zk⟩, zf⟩ := HZ1'.out
  have z6 : w1.cell? ⟨w.heap.size + 1 + 1, 6, none⟩ = some (.slice none 0 0) := zk 6 (by simp)
  have f6 : w1.frozen? ⟨w.heap.size + 1 + 1, 6, none⟩ = false := zf 6 (by simp)
  clear xc zk zf hT1 hP1 hb1 HZ1' HX0 HY0 HZ0 HX1
  replace HM1 := hid_intro (MadeG.put HM1.out (w.heap.size + 1 + 1) 6 (.slice (some ⟨g1, 0, none⟩) tl tl) (.inr (fun b off e => by simp at e; have := HG1.out; omega)))
  go_wp2_with fail
  refine (H2.out _ HB1.out).mono ?_
  rintro e w2 ⟨rfl, hT2, hP2, hb2⟩
  have HM2 := hid_intro (show MadeG 2 H.cells H.zero _ _ hs w2 from ⟨hT2, .inr ⟨_, rfl, Nat.le_refl _, HHL.out ▸ hP2⟩⟩)
  obtain ⟨g2, hg2⟩ : ∃ g2, g2 = (w1.setCell ⟨w.heap.size + 1 + 1, 6, none⟩ (.slice (some ⟨g1, 0, none⟩) tl tl)).heap.size := ⟨_, rfl⟩
  have HG2 : Hid (g1 < g2) := hid_intro (by rw [hg2]; simpa using HG1b.out)
  rw [← hg2] at HM2 ⊢
  clear hg2
  replace HM1 := hid_intro (HM1.out.below hb2)
  replace HY1 := hid_intro (HY1.out.below hb2)
  replace HZ1 := hid_intro (HZ1.out.below hb2)
  replace HB1 := hid_intro (HB1.out.trans (hb2.mono HB1.out.size))
  clear hT2 hP2 hb2 x7 z6 f6 xl zl
  obtain ⟨⟨zl, zk⟩, zf⟩ := HZ1.out
  have z0 : w2.cell? ⟨w.heap.size + 1 + 1, 0, none⟩ = some (.string a) := zk 0 (by simp)
  have z1 : w2.cell? ⟨w.heap.size + 1 + 1, 1, none⟩ = some (.string m) := zk 1 (by simp)
  have z2 : w2.cell? ⟨w.heap.size + 1 + 1, 2, none⟩ = some (.int .i64 mo) := zk 2 (by simp)
  have z3 : w2.cell? ⟨w.heap.size + 1 + 1, 3, none⟩ = some (.int .i64 ev) := zk 3 (by simp)
  have z4 : w2.cell? ⟨w.heap.size + 1 + 1, 4, none⟩ = some (.int .i64 su) := zk 4 (by simp)
  have z5 : w2.cell? ⟨w.heap.size + 1 + 1, 5, none⟩ = some (.int .i64 mx) := zk 5 (by simp)
  have z6 : w2.cell? ⟨w.heap.size + 1 + 1, 6, none⟩ = some (.slice (some ⟨g1, 0, none⟩) tl tl) := zk 6 (by simp)
  have z7 : w2.cell? ⟨w.heap.size + 1 + 1, 7, none⟩ = some (.slice none 0 0) := zk 7 (by simp)
  have f7 : w2.frozen? ⟨w.heap.size + 1 + 1, 7, none⟩ = false := zf 7 (by simp)
  obtain ⟨⟨yl, yk⟩, yf⟩ := HY1.out
  have y0 : w2.cell? ⟨w.heap.size + 1, 0, none⟩ = some (.string ⟨#[]⟩) := yk 0 (by simp)
  have q0 : w2.frozen? ⟨w.heap.size + 1, 0, none⟩ = false := yf 0 (by simp)
  have y1 : w2.cell? ⟨w.heap.size + 1, 1, none⟩ = some (.string ⟨#[]⟩) := yk 1 (by simp)
  have q1 : w2.frozen? ⟨w.heap.size + 1, 1, none⟩ = false := yf 1 (by simp)
  have y2 : w2.cell? ⟨w.heap.size + 1, 2, none⟩ = some (.int .i64 0) := yk 2 (by simp)
  have q2 : w2.frozen? ⟨w.heap.size + 1, 2, none⟩ = false := yf 2 (by simp)
  have y3 : w2.cell? ⟨w.heap.size + 1, 3, none⟩ = some (.int .i64 0) := yk 3 (by simp)
  have q3 : w2.frozen? ⟨w.heap.size + 1, 3, none⟩ = false := yf 3 (by simp)
  have y4 : w2.cell? ⟨w.heap.size + 1, 4, none⟩ = some (.int .i64 0) := yk 4 (by simp)
  have q4 : w2.frozen? ⟨w.heap.size + 1, 4, none⟩ = false := yf 4 (by simp)
  have y5 : w2.cell? ⟨w.heap.size + 1, 5, none⟩ = some (.int .i64 0) := yk 5 (by simp)
  have q5 : w2.frozen? ⟨w.heap.size + 1, 5, none⟩ = false := yf 5 (by simp)
  have y6 : w2.cell? ⟨w.heap.size + 1, 6, none⟩ = some (.slice none 0 0) := yk 6 (by simp)
  have q6 : w2.frozen? ⟨w.heap.size + 1, 6, none⟩ = false := yf 6 (by simp)
  have y7 : w2.cell? ⟨w.heap.size + 1, 7, none⟩ = some (.slice none 0 0) := yk 7 (by simp)
  have q7 : w2.frozen? ⟨w.heap.size + 1, 7, none⟩ = false := yf 7 (by simp)
  clear zk zf yk yf HY1 HZ1
  have HN1 : Hid (∀ b off, (some ⟨g1, 0, none⟩ : Option Addr) = some ⟨b, off, none⟩ → ∀ g, g ≤ w.heap.size + 1 + 1 → b ≠ g) := hid_intro (fun b off e g hg => by simp at e; have := HG1.out; omega)
  have HN2 : Hid (∀ b off, (some ⟨g2, 0, none⟩ : Option Addr) = some ⟨b, off, none⟩ → ∀ g, g ≤ w.heap.size + 1 + 1 → b ≠ g) := hid_intro (fun b off e g hg => by simp at e; have := HG1.out; have := HG2.out; omega)
  go_wp2_with fail
  refine bodyPost_ret (v := .agg #[.string a, .string m, .int .i64 mo, .int .i64 ev, .int .i64 su, .int .i64 mx, .slice (some ⟨g1, 0, none⟩) tl tl, .slice (some ⟨g2, 0, none⟩) hl hl]) (by simp [results, Tryz.results40, go_sem, y0, y1, y2, y3, y4, y5, y6, y7]) rfl ⟨_, rfl, HF.out _ g1 g2 (by have := HG1.out; omega) (by have := HG1.out; have := HG2.out; omega) (by have := HG2.out; omega) ?_ ?_, ?_⟩
  · exact (MadeG.put (MadeG.put (MadeG.put (MadeG.put (MadeG.put (MadeG.put (MadeG.put (MadeG.put (MadeG.put HM1.out _ _ _ (.inr (fun b off e => HN1.out b off e _ (by omega)))) _ _ _ (.inr (fun b off e => HN1.out b off e _ (by omega)))) _ _ _ (.inr (fun b off e => HN1.out b off e _ (by omega)))) _ _ _ (.inr (fun b off e => HN1.out b off e _ (by omega)))) _ _ _ (.inr (fun b off e => HN1.out b off e _ (by omega)))) _ _ _ (.inr (fun b off e => HN1.out b off e _ (by omega)))) _ _ _ (.inr (fun b off e => HN1.out b off e _ (by omega)))) _ _ _ (.inr (fun b off e => HN1.out b off e _ (by omega)))) _ _ _ (.inr (fun b off e => HN1.out b off e _ (by omega))))
  · exact (MadeG.put (MadeG.put (MadeG.put (MadeG.put (MadeG.put (MadeG.put (MadeG.put (MadeG.put (MadeG.put HM2.out _ _ _ (.inr (fun b off e => HN2.out b off e _ (by omega)))) _ _ _ (.inr (fun b off e => HN2.out b off e _ (by omega)))) _ _ _ (.inr (fun b off e => HN2.out b off e _ (by omega)))) _ _ _ (.inr (fun b off e => HN2.out b off e _ (by omega)))) _ _ _ (.inr (fun b off e => HN2.out b off e _ (by omega)))) _ _ _ (.inr (fun b off e => HN2.out b off e _ (by omega)))) _ _ _ (.inr (fun b off e => HN2.out b off e _ (by omega)))) _ _ _ (.inr (fun b off e => HN2.out b off e _ (by omega)))) _ _ _ (.inr (fun b off e => HN2.out b off e _ (by omega))))
  · exact (((((((((HB1.out.setCell (by simp; omega) _).setCell (by simp) _).setCell (by simp) _).setCell (by simp) _).setCell (by simp) _).setCell (by simp) _).setCell (by simp) _).setCell (by simp) _).setCell (by simp) _)
theorem toW_any (v : Value) (x : Wd) (w : World) (ht : x.ts.length ≤ 1048576) (hh : x.hs.length ≤ 1048576) (h : IsWd v x w) :
    Calls Tryz.prog 40 #[v] w fun e w' => ∃ v', e = .returned v' ∧ MadeW w.heap.size x v' w' ∧ Below w.heap.size w w' := by
  obtain ⟨ta, tc, ha, hc, rfl, hT, hH⟩ := h
  exact toW_in x.a x.m x.mo x.ev x.su x.mx ta x.ts tc ha x.hs hc w ht hh hT hH
set_option maxRecDepth 100000 in
set_option maxHeartbeats 8000000 in
theorem eqW_in (a m : ByteArray) (mo ev su mx : Int) (ta : Option Addr) (tl tc : Nat) (ha : Option Addr) (hl hc : Nat) (ta' : Option Addr) (tc' : Nat) (ha' : Option Addr) (hc' : Nat) (w : World)
    (h1 : ∀ W, Below w.heap.size w W → Calls Tryz.prog 103 #[.slice ta tl tc, .slice ta' tl tc'] W fun e w' => e = .returned (.bool true) ∧ Below W.heap.size W w')
    (h2 : ∀ W, Below w.heap.size w W → Calls Tryz.prog 104 #[.slice ha hl hc, .slice ha' hl hc'] W fun e w' => e = .returned (.bool true) ∧ Below W.heap.size W w') :
    Calls Tryz.prog 51 #[.agg #[.string a, .string m, .int .i64 mo, .int .i64 ev, .int .i64 su, .int .i64 mx, .slice ta tl tc, .slice ha hl hc], .agg #[.string a, .string m, .int .i64 mo, .int .i64 ev, .int .i64 su, .int .i64 mx, .slice ta' tl tc', .slice ha' hl hc']] w fun e w' => e = .returned (.bool true) ∧ Below w.heap.size w w' := by
  have H1 := hid_intro h1
  have H2 := hid_intro h2
  have HB0 : Hid (Below w.heap.size w ((w.alloc (.cells #[.string a, .string m, .int .i64 mo, .int .i64 ev, .int .i64 su, .int .i64 mx, .slice ta tl tc, .slice ha hl hc] 74)).alloc (.cells #[.string a, .string m, .int .i64 mo, .int .i64 ev, .int .i64 su, .int .i64 mx, .slice ta' tl tc', .slice ha' hl hc'] 74))) := hid_intro (((Below.refl _ _).alloc (Nat.le_refl _) _).alloc (by simp) _)
  have HX0 := hid_intro ((Blk.new w [.string a, .string m, .int .i64 mo, .int .i64 ev, .int .i64 su, .int .i64 mx, .slice ta tl tc, .slice ha hl hc] 74).below ((Below.refl _ _).alloc (Nat.le_refl _) (Obj.cells #[.string a, .string m, .int .i64 mo, .int .i64 ev, .int .i64 su, .int .i64 mx, .slice ta' tl tc', .slice ha' hl hc'] 74)))
  have HY0 := hid_intro (Blk.new (w.alloc (.cells #[.string a, .string m, .int .i64 mo, .int .i64 ev, .int .i64 su, .int .i64 mx, .slice ta tl tc, .slice ha hl hc] 74)) [.string a, .string m, .int .i64 mo, .int .i64 ev, .int .i64 su, .int .i64 mx, .slice ta' tl tc', .slice ha' hl hc'] 74)
  have e1 : (w.alloc (.cells #[.string a, .string m, .int .i64 mo, .int .i64 ev, .int .i64 su, .int .i64 mx, .slice ta tl tc, .slice ha hl hc] 74)).heap.size = w.heap.size + 1 := by simp
  rw [e1] at HY0
  clear e1 h1 h2
  go_enter Tryz.func51, Tryz.ntmps51
  go_wp2_with fail
  refine (H1.out _ HB0.out).mono ?_
  rintro e w1 ⟨rfl, hb1⟩
  have HB1 := hid_intro (HB0.out.trans (hb1.mono HB0.out.size))
  have HX1 := hid_intro (HX0.out.below hb1)
  have HY1 := hid_intro (HY0.out.below hb1)
  obtain ⟨xl, xc⟩ := HX1.out
  have x7 : w1.cell? ⟨w.heap.size, 7, none⟩ = some (.slice ha hl hc) := xc 7 (by simp)
  obtain ⟨yl, yc⟩ := HY1.out
  have y7 : w1.cell? ⟨w.heap.size + 1, 7, none⟩ = some (.slice ha' hl hc') := yc 7 (by simp)
  clear xc yc hb1
  go_wp2_with fail
  refine (H2.out _ HB1.out).mono ?_
  rintro e w2 ⟨rfl, hb2⟩
  have HB2 := hid_intro (HB1.out.trans (hb2.mono HB1.out.size))
  clear hb2
  go_wp2_with fail
  go_ret
  exact ⟨rfl, HB2.out⟩
theorem eqW_any (v v' : Value) (x : Wd) (w : World) (ht : x.ts.length ≤ 1048576) (hh : x.hs.length ≤ 1048576) (h : IsWd v x w) (h' : IsWd v' x w) :
    Calls Tryz.prog 51 #[v, v'] w fun e w' => e = .returned (.bool true) ∧ Below w.heap.size w w' := by
  obtain ⟨ta, tc, ha, hc, rfl, hT, hH⟩ := h
  obtain ⟨ta', tc', ha', hc', rfl, hT', hH'⟩ := h'
  exact eqW_in x.a x.m x.mo x.ev x.su x.mx ta x.ts.length tc ha x.hs.length hc ta' tc' ha' hc' w (fun W hW => eqTs_any ta ta' tc tc' x.ts W ht (hT.below hW) (hT'.below hW)) (fun W hW => eqHs_any ha ha' hc hc' x.hs W hh (hH.below hW) (hH'.below hW))
end WinR
end Go.Proofs.YtcilbmhkhllmjaaGreatDoor
namespace Go.Proofs.YtcilbmhkhllmjaaGreatDoor
open Go.ChangeShapes Go.WideShapes Go.ChangeAt Go.RowKit
set_option linter.unusedVariables false
namespace CatR
/-- A tier, a credit, a meter, a catalog. -/
structure Ti where
  u : Int
  p : Int
structure Cr where
  a : ByteArray
  m : Int
structure Me where
  n : ByteArray
  g : Int
  wh : Bool
  f : Int
  l : Int
  ts : List Ti
structure Ca where
  ms : List Me
  cs : List Cr
def Ti.zero : Ti := ⟨0, 0⟩
def Cr.zero : Cr := ⟨⟨#[]⟩, 0⟩
def Me.zero : Me := ⟨⟨#[]⟩, 0, false, 0, 0, []⟩
/-- The cells of a tier, of a credit stand at a place. -/
def TiAt (w : World) (b o : Nat) (t : Ti) : Prop := w.cell? ⟨b, o, none⟩ = some (.int .i64 t.u) ∧ w.cell? ⟨b, o + 1, none⟩ = some (.int .i64 t.p)
def CrAt (w : World) (b o : Nat) (t : Cr) : Prop := w.cell? ⟨b, o, none⟩ = some (.string t.a) ∧ w.cell? ⟨b, o + 1, none⟩ = some (.int .i64 t.m)
/-- The row holds these tiers, these credits; it lies in none of the shunned blocks. -/
def Tis (ao : Option Addr) (len : Nat) (ts : List Ti) (w : World) : Prop := ts.length = len ∧ (len = 0 ∨ ∃ b off, ao = some ⟨b, off, none⟩ ∧ b < w.heap.size ∧ ∀ j, j < len → TiAt w b (off + j * 2) (ts.getD j Ti.zero))
def Crs (ao : Option Addr) (len : Nat) (ts : List Cr) (w : World) : Prop := ts.length = len ∧ (len = 0 ∨ ∃ b off, ao = some ⟨b, off, none⟩ ∧ b < w.heap.size ∧ ∀ j, j < len → CrAt w b (off + j * 2) (ts.getD j Cr.zero))
/-- A meter's cells at a place, its tiers elsewhere. -/
def MeAt (w : World) (b o : Nat) (m : Me) : Prop := ∃ ta tc, w.cell? ⟨b, o, none⟩ = some (.string m.n) ∧ w.cell? ⟨b, o + 1, none⟩ = some (.int .i64 m.g) ∧ w.cell? ⟨b, o + 2, none⟩ = some (.bool m.wh) ∧ w.cell? ⟨b, o + 3, none⟩ = some (.int .i64 m.f) ∧ w.cell? ⟨b, o + 4, none⟩ = some (.int .i64 m.l) ∧ w.cell? ⟨b, o + 5, none⟩ = some (.slice ta m.ts.length tc) ∧ Tis ta m.ts.length m.ts w
def Mes (ao : Option Addr) (len : Nat) (ms : List Me) (w : World) : Prop := ms.length = len ∧ (len = 0 ∨ ∃ b off, ao = some ⟨b, off, none⟩ ∧ b < w.heap.size ∧ ∀ j, j < len → MeAt w b (off + j * 6) (ms.getD j Me.zero))
/-- A meter's value, a catalog's. -/
def IsMe (v : Value) (m : Me) (w : World) : Prop := ∃ ta tc, v = .agg #[.string m.n, .int .i64 m.g, .bool m.wh, .int .i64 m.f, .int .i64 m.l, .slice ta m.ts.length tc] ∧ Tis ta m.ts.length m.ts w
def IsCa (v : Value) (c : Ca) (w : World) : Prop := ∃ ma mc ca cc, v = .agg #[.slice ma c.ms.length mc, .slice ca c.cs.length cc] ∧ Mes ma c.ms.length c.ms w ∧ Crs ca c.cs.length c.cs w
theorem TiAt.below {w w' : World} {b o : Nat} {e : Ti} (h : TiAt w b o e) (hl : b < w.heap.size) (hb : Below w.heap.size w w') : TiAt w' b o e :=
  ⟨(hb.cell (p := ⟨b, o, none⟩) hl).trans h.1, (hb.cell (p := ⟨b, o + 1, none⟩) hl).trans h.2⟩
theorem CrAt.below {w w' : World} {b o : Nat} {e : Cr} (h : CrAt w b o e) (hl : b < w.heap.size) (hb : Below w.heap.size w w') : CrAt w' b o e :=
  ⟨(hb.cell (p := ⟨b, o, none⟩) hl).trans h.1, (hb.cell (p := ⟨b, o + 1, none⟩) hl).trans h.2⟩
theorem Tis.below {ao : Option Addr} {len : Nat} {es : List Ti} {w w' : World} (h : Tis ao len es w) (hb : Below w.heap.size w w') : Tis ao len es w' := by
  refine ⟨h.1, ?_⟩
  rcases h.2 with h0 | ⟨b, off, rfl, hlt, hc⟩
  · exact .inl h0
  · exact .inr ⟨b, off, rfl, by have := hb.size; omega, fun j hj => (hc j hj).below hlt hb⟩
theorem Crs.below {ao : Option Addr} {len : Nat} {es : List Cr} {w w' : World} (h : Crs ao len es w) (hb : Below w.heap.size w w') : Crs ao len es w' := by
  refine ⟨h.1, ?_⟩
  rcases h.2 with h0 | ⟨b, off, rfl, hlt, hc⟩
  · exact .inl h0
  · exact .inr ⟨b, off, rfl, by have := hb.size; omega, fun j hj => (hc j hj).below hlt hb⟩
theorem MeAt.below {w w' : World} {b o : Nat} {e : Me} (h : MeAt w b o e) (hl : b < w.heap.size) (hb : Below w.heap.size w w') : MeAt w' b o e := by
  obtain ⟨ta, tc, h0, h1, h2, h3, h4, h5, h6⟩ := h
  have f := fun k => hb.cell (p := ⟨b, k, none⟩) hl
  exact ⟨ta, tc, (f _).trans h0, (f _).trans h1, (f _).trans h2, (f _).trans h3, (f _).trans h4, (f _).trans h5, h6.below hb⟩
theorem Mes.below {ao : Option Addr} {len : Nat} {es : List Me} {w w' : World} (h : Mes ao len es w) (hb : Below w.heap.size w w') : Mes ao len es w' := by
  refine ⟨h.1, ?_⟩
  rcases h.2 with h0 | ⟨b, off, rfl, hlt, hc⟩
  · exact .inl h0
  · exact .inr ⟨b, off, rfl, by have := hb.size; omega, fun j hj => (hc j hj).below hlt hb⟩
theorem IsMe.below {v : Value} {m : Me} {w w' : World} (h : IsMe v m w) (hb : Below w.heap.size w w') : IsMe v m w' := by
  obtain ⟨ta, tc, hv, ht⟩ := h
  exact ⟨ta, tc, hv, ht.below hb⟩
theorem IsCa.below {v : Value} {m : Ca} {w w' : World} (h : IsCa v m w) (hb : Below w.heap.size w w') : IsCa v m w' := by
  obtain ⟨ma, mc, ca, cc, hv, h1, h2⟩ := h
  exact ⟨ma, mc, ca, cc, hv, h1.below hb, h2.below hb⟩
theorem tis_at {ao : Option Addr} {len : Nat} {es : List Ti} {w : World} (h : Tis ao len es w) (k : Nat) (hk : k < len) : ∃ b off, ao = some ⟨b, off, none⟩ ∧ b < w.heap.size ∧ TiAt w b (off + k * 2) (es.getD k Ti.zero) := by
  rcases h.2 with h0 | ⟨b, off, rfl, hlt, hc⟩
  · omega
  · exact ⟨b, off, rfl, hlt, hc k hk⟩
theorem crs_at {ao : Option Addr} {len : Nat} {es : List Cr} {w : World} (h : Crs ao len es w) (k : Nat) (hk : k < len) : ∃ b off, ao = some ⟨b, off, none⟩ ∧ b < w.heap.size ∧ CrAt w b (off + k * 2) (es.getD k Cr.zero) := by
  rcases h.2 with h0 | ⟨b, off, rfl, hlt, hc⟩
  · omega
  · exact ⟨b, off, rfl, hlt, hc k hk⟩
theorem mes_at {ao : Option Addr} {len : Nat} {es : List Me} {w : World} (h : Mes ao len es w) (k : Nat) (hk : k < len) : ∃ b off, ao = some ⟨b, off, none⟩ ∧ b < w.heap.size ∧ MeAt w b (off + k * 6) (es.getD k Me.zero) := by
  rcases h.2 with h0 | ⟨b, off, rfl, hlt, hc⟩
  · omega
  · exact ⟨b, off, rfl, hlt, hc k hk⟩
theorem getD_memG {α : Type} (es : List α) (d : α) (k : Nat) (h : k < es.length) : es.getD k d ∈ es := by
  have : es.getD k d = es[k] := by simp [List.getD, h]
  rw [this]; exact List.getElem_mem h
theorem Tis.nil (ao : Option Addr) (w : World) : Tis ao 0 [] w := ⟨rfl, .inl rfl⟩
end CatR
end Go.Proofs.YtcilbmhkhllmjaaGreatDoor
