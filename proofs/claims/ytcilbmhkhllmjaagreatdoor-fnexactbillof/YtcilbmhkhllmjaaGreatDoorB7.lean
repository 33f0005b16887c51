/-
  The law's own marks in a catalog and in a meter's tiers: written, and found again. The condition: all is small.
  Cells of a block written one behind another. No condition.
  Memory of one's own that is kept while other memory grows or is written. No condition.
  Worlds that differ in some blocks alone. No condition.
  Windows of one's own are marked, however far: nothing beside their own blocks is written. The conditions: sizes of at most 1048576.
  What lies in blocks from a number on is as it was. No condition.
  Lists of lines: what is read of a row of them, the law's own copies, and lists held against each other. The condition: at most 1048576 lines.
-/
import Derived.Lib.ConvBytes
import Derived.Laws.BytesArg
import Derived.Deep.RegionWith
import Derived.Test.YtcilbmhkhllmjaaGreatDoorB6
namespace Go.Proofs.YtcilbmhkhllmjaaGreatDoor
open Go.ChangeShapes Go.WideShapes Go.ChangeAt Go.RowKit
set_option linter.unusedVariables false
namespace CatR
open EvtR (Pt)
/-- Only blocks between two bounds are written. -/
structure Outs (base top : Nat) (w w' : World) : Prop where
  os : w'.os = w.os
  tape : w'.tape = w.tape
  output : w'.output = w.output
  size : w.heap.size ≤ w'.heap.size
  block : ∀ k, k < w.heap.size → (k < base ∨ top ≤ k) → w'.heap[k]? = w.heap[k]?
theorem Outs.refl (base top : Nat) (w : World) : Outs base top w w := ⟨rfl, rfl, rfl, Nat.le_refl _, fun _ _ _ => rfl⟩
theorem Outs.trans {base top : Nat} {w w1 w2 : World} (h : Outs base top w w1) (h2 : Outs base top w1 w2) : Outs base top w w2 :=
  ⟨h2.os.trans h.os, h2.tape.trans h.tape, h2.output.trans h.output, Nat.le_trans h.size h2.size, fun k hk hb => (h2.block k (by have := h.size; omega) hb).trans (h.block k hk hb)⟩
theorem Outs.below {base top : Nat} {w w1 w2 : World} (h : Outs base top w w1) (hb : Below w1.heap.size w1 w2) : Outs base top w w2 :=
  h.trans ⟨hb.os, hb.tape, hb.output, hb.size, fun k hk _ => hb.block k hk⟩
theorem Outs.grown {base top : Nat} {w w1 w2 : World} {g : Nat} (h : Outs base top w w1) (hg : w1.grownBy w2 (some g)) (h1 : base ≤ g) (h2 : g < top) : Outs base top w w2 :=
  h.trans ⟨hg.os, hg.tape, hg.output, hg.size, fun k hk hb => hg.block k hk (fun e => by simp at e; omega)⟩
theorem Outs.put {base top : Nat} {w w1 : World} (h : Outs base top w w1) (g o : Nat) (v : Value) (h1 : base ≤ g) (h2 : g < top) : Outs base top w (w1.setCell ⟨g, o, none⟩ v) := h.grown (RowG.grown_set w1 g o v) h1 h2
theorem pt_any {g m : Nat} {w : World} (h : Pt g m w) (b o : Nat) (v : Value) : Pt g m (w.setCell ⟨b, o, none⟩ v) := by
  by_cases e : b = g
  · subst e; exact h.set o v
  · exact h.far e o v
theorem pt_gr {g m b : Nat} {w w' : World} (h : Pt g m w) (hg : w.grownBy w' (some b)) (hp : b = g → Pt g m w') : Pt g m w' := by
  by_cases e : b = g
  · exact hp e
  · have e2 := hg.block g h.lt (fun q => e (by simpa using q.symm))
    exact ⟨by have := hg.size; have := h.lt; omega, fun o ho => by obtain ⟨v, hv⟩ := h.has o ho; exact ⟨v, (World.cell?_of_block (a := ⟨g, o, none⟩) e2).trans hv⟩, fun o ho => (World.frozen?_of_block (a := ⟨g, o, none⟩) e2).trans (h.free o ho)⟩
/-- The cells of marked tiers. -/
def mTi (K o : Nat) : Option Value := some (.int .i64 ((K + o : Nat) : Int))
set_option maxRecDepth 100000 in
set_option maxHeartbeats 4000000 in
theorem markTis (g n cap K : Nat) (w : World) (hn : n ≤ 1048576) (hK : K ≤ 1000000000000000) (h0 : Pt g (n * 2) w) :
    Calls Tryz.prog 105 #[.slice (some ⟨g, 0, none⟩) n cap, .int .i64 K] w fun e w' => e = .returned (.int .i64 (K + 2 * n : Nat)) ∧ Pt g (n * 2) w' ∧ RowG.Wr (mTi K) (n * 2) g w' ∧ w.grownBy w' (some g) := by
  have HP := hid_intro h0
  clear h0
  go_enter Tryz.func105, Tryz.ntmps105
  go_wp2_with fail
  go_loopw [5, 1] (fun x z wr => ∃ i : Nat, x = .int .i64 (i : Int) ∧ z = .int .i64 ((K : Int) + 2 * (i : Int)) ∧ i ≤ n ∧ Hid (Pt g (n * 2) wr) ∧ Hid (RowG.Wr (mTi K) (i * 2) g wr) ∧ Hid (w.grownBy wr (some g))) (fun x _ _ => n - (intOf x).toNat)
  case atStart => exact ⟨0, rfl, by go_num, by omega, HP, hid_intro (fun o ho => absurd ho (by omega)), hid_intro ⟨rfl, rfl, rfl, Nat.le_refl _, fun _ _ _ => rfl⟩⟩
  case round =>
    obtain ⟨i, rfl, rfl, hi, HP, HM, HG⟩ := hrel
    by_cases hin : i = n
    · subst hin
      go_wp2_with fail
      go_ret
      exact ⟨by go_num, HP.out, HM.out, HG.out⟩
    · have h1 : (i : Int) < (n : Int) := by omega
      obtain ⟨v0, c0⟩ := HP.out.has (i * 2) (by omega)
      have f0 := HP.out.free (i * 2) (by omega)
      obtain ⟨v1, c1⟩ := HP.out.has (i * 2 + 1) (by omega)
      have f1 := HP.out.free (i * 2 + 1) (by omega)
      have HM1 := hid_intro (HM.out.more HP.out (by omega) (.int .i64 ((K : Int) + 2 * (i : Int))) (by unfold mTi; congr 2; omega))
      have HP1 := hid_intro (HP.out.set (i * 2) (.int .i64 ((K : Int) + 2 * (i : Int))))
      have HM2 := hid_intro (HM1.out.more HP1.out (by omega) (.int .i64 ((K : Int) + 2 * (i : Int) + 1)) (by unfold mTi; congr 2; omega))
      have HP2 := hid_intro (HP1.out.set (i * 2 + 1) (.int .i64 ((K : Int) + 2 * (i : Int) + 1)))
      have HG2 := hid_intro (gtr (gtr HG.out (RowG.grown_set wr g (i * 2) (.int .i64 ((K : Int) + 2 * (i : Int))))) (RowG.grown_set _ g (i * 2 + 1) (.int .i64 ((K : Int) + 2 * (i : Int) + 1))))
      clear HP HM HG HM1 HP1
      go_wp2_with fail
      go_roundw
      case rel => exact ⟨i + 1, by go_num, by go_num, by omega, HP2, hid_intro (by rw [show (i + 1) * 2 = i * 2 + 1 + 1 by omega]; exact HM2.out), HG2⟩
      case measure => simp [intOf]; omega
theorem conv_x (w : World) (z : Int) : (convert 47 9 (.slice (some ⟨w.heap.size, 0, none⟩) 1 1)).run Tryz.prog (w.alloc (Obj.cells #[.int .u8 z] 5)) = .ok (.string (strOfNums [z])) (w.alloc (Obj.cells #[.int .u8 z] 5)) := by
  refine run_convert_bytes_arg _ 47 5 Tryz.underlying47 Tryz.underlying5 w.heap.size 0 1 1 _ rfl ?_ 9 Tryz.underlying9
  intro i hi
  match i, hi with
  | 0, _ => simp [go_sem]
set_option maxRecDepth 100000 in
set_option maxHeartbeats 4000000 in
/-- The law's mark, some text. -/
theorem mark_some (K : Nat) (h0 : 1 ≤ K) (h : K < 1000000000000000000) (w : World) : Calls Tryz.prog 54 #[.int .i64 K] w fun e w' => (∃ T, e = .returned (.string T)) ∧ Below w.heap.size w w' := by
  have h1 : ¬ (K : Int) ≤ 0 := by omega
  go_enter Tryz.func54, Tryz.ntmps54
  go_wp2_with fail
  go_loopw [0, 3] (fun x z wr => ∃ (f k : Nat) (out : ByteArray), x = .int .i64 (k : Int) ∧ z = .string out ∧ k < 10 ^ f ∧ f ≤ 18 ∧ out.size + f = 18 ∧ Hid (Below w.heap.size w wr)) (fun x _ _ => (intOf x).toNat)
  case atStart => exact ⟨18, K, ⟨#[]⟩, rfl, rfl, by omega, by omega, rfl, hid_intro (Below.refl _ _)⟩
  case round =>
    obtain ⟨f, k, out, rfl, rfl, hk, hf, hz, HB⟩ := hrel
    by_cases hk0 : k = 0
    · subst hk0
      have q1 : ¬ 9223372036854775807 < 1 + out.size := by omega
      go_wp2_with fail
      go_ret
      exact ⟨⟨_, rfl⟩, HB.out⟩
    · obtain ⟨g, rfl⟩ : ∃ g, f = g + 1 := ⟨f - 1, by rcases f with _ | f; simp at hk; omega; omega⟩
      have hk2 : k / 10 < 10 ^ g := by rw [Nat.pow_succ] at hk; omega
      have hkb : k < 1000000000000000000 := by
        have : 10 ^ (g + 1) ≤ 10 ^ 18 := Nat.pow_le_pow_right (by omega) hf
        omega
      have k1 : (0 : Int) < (k : Int) := by omega
      have e1 : (k : Int) % 10 = ((k % 10 : Nat) : Int) := by omega
      have e2 : (k : Int) / 10 = ((k / 10 : Nat) : Int) := by omega
      have e3 : (k : Int).tmod 10 = ((k % 10 : Nat) : Int) := by rw [Int.tmod_eq_emod_of_nonneg (by omega)]; omega
      have e4 : (k : Int).tdiv 10 = ((k / 10 : Nat) : Int) := by rw [Int.tdiv_eq_ediv_of_nonneg (by omega)]; omega
      have d10 : k % 10 < 10 := by omega
      have dk : k / 10 < k := by omega
      have hC : (strOfNums [48 + ((k % 10 : Nat) : Int)]).size = 1 := strOfNums_size _
      have hcv := conv_x wr (48 + ((k % 10 : Nat) : Int))
      generalize k % 10 = d at *
      generalize k / 10 = q at *
      generalize strOfNums [48 + (d : Int)] = T at *
      have q1 : ¬ 9223372036854775807 < T.size + out.size := by omega
      have HDk := hid_intro dk
      clear dk hk
      go_wp2_with fail
      go_roundw
      case rel => exact ⟨g, q, T ++ out, rfl, rfl, hk2, by omega, by rw [ByteArray.size_append]; omega, hid_intro (HB.out.alloc HB.out.size _)⟩
      case measure => simp [intOf]; have := HDk.out; omega
/-- A list of meters that may be marked: its cells, and each one's tiers. -/
structure MkMes (base top g : Nat) (bs : Nat → Nat) (ls : Nat → Nat) (n : Nat) (w : World) : Prop where
  lo : base ≤ g
  hi : g < top
  pt : Pt g (n * 6) w
  tp : ∀ i, i < n → base ≤ bs i ∧ bs i < top ∧ bs i ≠ g ∧ Pt (bs i) (ls i * 2) w ∧ ls i ≤ 1048576
  sl : ∀ i, i < n → w.cell? ⟨g, i * 6 + 5, none⟩ = some (.slice (some ⟨bs i, 0, none⟩) (ls i) (ls i))
theorem MkMes.below {base top g : Nat} {bs ls : Nat → Nat} {n : Nat} {w w' : World} (h : MkMes base top g bs ls n w) (hb : Below w.heap.size w w') : MkMes base top g bs ls n w' :=
  ⟨h.lo, h.hi, h.pt.below hb, fun i hi => by obtain ⟨a, b, c, d, e⟩ := h.tp i hi; exact ⟨a, b, c, d.below hb, e⟩, fun i hi => (hb.cell (p := ⟨g, i * 6 + 5, none⟩) h.pt.lt).trans (h.sl i hi)⟩
theorem MkMes.put {base top g : Nat} {bs ls : Nat → Nat} {n : Nat} {w : World} (h : MkMes base top g bs ls n w) (o : Nat) (v : Value) (ho : ∀ i, i < n → o ≠ i * 6 + 5) : MkMes base top g bs ls n (w.setCell ⟨g, o, none⟩ v) :=
  ⟨h.lo, h.hi, h.pt.set o v, fun i hi => by obtain ⟨a, b, c, d, e⟩ := h.tp i hi; exact ⟨a, b, c, pt_any d g o v, e⟩, fun i hi => (EvtR.cell_far o (i * 6 + 5) (ho i hi) v).trans (h.sl i hi)⟩
theorem MkMes.tier {base top g : Nat} {bs ls : Nat → Nat} {n j : Nat} {w w' : World} (h : MkMes base top g bs ls n w) (hj : j < n) (hg : w.grownBy w' (some (bs j))) (hp : Pt (bs j) (ls j * 2) w') (hsame : ∀ i, i < n → bs i = bs j → ls i = ls j) : MkMes base top g bs ls n w' := by
  obtain ⟨_, _, hjg, _, _⟩ := h.tp j hj
  have e := hg.block g h.pt.lt (fun q => hjg (by simpa using q.symm))
  exact ⟨h.lo, h.hi, pt_gr h.pt hg (fun q => absurd q hjg), fun i hi => by
    obtain ⟨a, b, c, d, e⟩ := h.tp i hi
    exact ⟨a, b, c, pt_gr d hg (fun q => by rw [← q, hsame i hi q.symm]; exact hp), e⟩, fun i hi => (World.cell?_of_block (a := ⟨g, i * 6 + 5, none⟩) e).trans (h.sl i hi)⟩
set_option maxRecDepth 100000 in
set_option maxHeartbeats 8000000 in
theorem markMes (base top g : Nat) (bs ls : Nat → Nat) (n cap : Nat) (w : World) (hn : n ≤ 1048576) (hM : MkMes base top g bs ls n w) (hs : ∀ i j, i < n → j < n → bs i = bs j → ls i = ls j) :
    Calls Tryz.prog 52 #[.slice (some ⟨g, 0, none⟩) n cap, .int .i64 1] w fun e w' => ∃ K : Nat, e = .returned (.int .i64 K) ∧ 1 ≤ K ∧ K ≤ 10000000000000 ∧ MkMes base top g bs ls n w' ∧ Outs base top w w' := by
  have HM := hid_intro hM
  have HS := hid_intro hs
  have HT : Hid (∀ (z : Int) (K : Nat), z = K → 1 ≤ K → K ≤ 10000000000000 → ∀ w, Calls Tryz.prog 54 #[.int .i64 z] w fun e w' => (∃ T, e = .returned (.string T)) ∧ Below w.heap.size w w') := hid_intro (fun z K e h0 h w => by subst e; exact mark_some K h0 (by omega) w)
  have HTT : Hid (∀ (g n cap : Nat) (z : Int) (K : Nat), z = K → n ≤ 1048576 → K ≤ 10000000000000 → ∀ w, Pt g (n * 2) w → Calls Tryz.prog 105 #[.slice (some ⟨g, 0, none⟩) n cap, .int .i64 z] w fun e w' => e = .returned (.int .i64 (K + 2 * n : Nat)) ∧ Pt g (n * 2) w' ∧ RowG.Wr (mTi K) (n * 2) g w' ∧ w.grownBy w' (some g)) := hid_intro (fun g n cap z K e hn hK w h => by subst e; exact markTis g n cap K w hn (by omega) h)
  clear hM hs
  go_enter Tryz.func52, Tryz.ntmps52
  go_wp2_with fail
  go_loopw [5, 1] (fun x z wr => ∃ i K : Nat, x = .int .i64 (i : Int) ∧ z = .int .i64 (K : Int) ∧ i ≤ n ∧ 1 ≤ K ∧ K ≤ 1 + i * 2097157 ∧ Hid (MkMes base top g bs ls n wr) ∧ Hid (Outs base top w wr)) (fun x _ _ => n - (intOf x).toNat)
  case atStart => exact ⟨0, 1, rfl, rfl, by omega, by omega, by omega, HM, hid_intro (Outs.refl _ _ _)⟩
  case round =>
    obtain ⟨i, K, rfl, rfl, hi, hK1, hK2, HM, HO⟩ := hrel
    have hKb : K ≤ 2200000000000 := by have : i * 2097157 ≤ 1048576 * 2097157 := Nat.mul_le_mul_right _ (by omega); omega
    by_cases hin : i = n
    · subst hin
      go_wp2_with fail
      go_ret
      exact ⟨K, rfl, hK1, by omega, HM.out, HO.out⟩
    · have h1 : (i : Int) < (n : Int) := by omega
      go_wp2_with fail
      refine (HT.out _ K rfl hK1 (by omega) _).mono ?_
      rintro e w1 ⟨⟨T, rfl⟩, hb⟩
      have HM1 := hid_intro (HM.out.below hb)
      have HO1 := hid_intro (HO.out.below hb)
      clear hb HM HO
      obtain ⟨v0, c0⟩ := HM1.out.pt.has (i * 6) (by omega)
      have f0 := HM1.out.pt.free (i * 6) (by omega)
      have hh0 : ∀ j, j < n → i * 6 ≠ j * 6 + 5 := fun j _ => by omega
      obtain ⟨v1, c1⟩ := HM1.out.pt.has (i * 6 + 1) (by omega)
      have f1 := HM1.out.pt.free (i * 6 + 1) (by omega)
      have hh1 : ∀ j, j < n → i * 6 + 1 ≠ j * 6 + 5 := fun j _ => by omega
      obtain ⟨v2, c2⟩ := HM1.out.pt.has (i * 6 + 2) (by omega)
      have f2 := HM1.out.pt.free (i * 6 + 2) (by omega)
      have hh2 : ∀ j, j < n → i * 6 + 2 ≠ j * 6 + 5 := fun j _ => by omega
      obtain ⟨v3, c3⟩ := HM1.out.pt.has (i * 6 + 3) (by omega)
      have f3 := HM1.out.pt.free (i * 6 + 3) (by omega)
      have hh3 : ∀ j, j < n → i * 6 + 3 ≠ j * 6 + 5 := fun j _ => by omega
      obtain ⟨v4, c4⟩ := HM1.out.pt.has (i * 6 + 4) (by omega)
      have f4 := HM1.out.pt.free (i * 6 + 4) (by omega)
      have hh4 : ∀ j, j < n → i * 6 + 4 ≠ j * 6 + 5 := fun j _ => by omega
      have c5 := HM1.out.sl i (by omega)
      obtain ⟨t1, t2, t3, t4, t5⟩ := HM1.out.tp i (by omega)
      have HTP := hid_intro t4
      have HSS := hid_intro (fun j hj => HS.out j i hj (by omega))
      have hgl := HM1.out.pt.lt
      have hlo := HM1.out.lo
      have hhi := HM1.out.hi
      have hli : i < n := by omega
      have HHH := hid_intro (show (∀ j, j < n → i * 6 ≠ j * 6 + 5) ∧ (∀ j, j < n → i * 6 + 1 ≠ j * 6 + 5) ∧ (∀ j, j < n → i * 6 + 2 ≠ j * 6 + 5) ∧ (∀ j, j < n → i * 6 + 3 ≠ j * 6 + 5) ∧ (∀ j, j < n → i * 6 + 4 ≠ j * 6 + 5) from ⟨hh0, hh1, hh2, hh3, hh4⟩)
      clear hh0 hh1 hh2 hh3 hh4 t4
      go_wp2_with fail
      refine (HTT.out _ _ _ _ (K + 5) (by push_cast; omega) t5 (by omega) _ (pt_any (pt_any (pt_any (pt_any (pt_any HTP.out _ _ _) _ _ _) _ _ _) _ _ _) _ _ _)).mono ?_
      rintro e w2 ⟨rfl, hp2, _, hg2⟩
      have HM2 := hid_intro (MkMes.tier (((((HM1.out.put (i * 6) _ HHH.out.1).put (i * 6 + 1) _ HHH.out.2.1).put (i * 6 + 2) _ HHH.out.2.2.1).put (i * 6 + 3) _ HHH.out.2.2.2.1).put (i * 6 + 4) _ HHH.out.2.2.2.2) hli hg2 hp2 HSS.out)
      have HO2 := hid_intro (Outs.grown (((((HO1.out.put g (i * 6) _ hlo hhi).put g (i * 6 + 1) _ hlo hhi).put g (i * 6 + 2) _ hlo hhi).put g (i * 6 + 3) _ hlo hhi).put g (i * 6 + 4) _ hlo hhi) hg2 t1 t2)
      clear hp2 hg2 c0 c1 c2 c3 c4 c5 f0 f1 f2 f3 f4 HM1 HO1
      have hb2 : K + 5 + 2 * ls i ≤ 1 + (i + 1) * 2097157 := by rw [Nat.add_mul]; omega
      go_wp2_with fail
      go_roundw
      case rel => exact ⟨i + 1, K + 5 + 2 * ls i, by go_num, by go_num, by omega, by omega, hb2, HM2, HO2⟩
      case measure => simp [intOf]; omega
set_option maxRecDepth 100000 in
set_option maxHeartbeats 4000000 in
theorem markCrs (base top g n cap K0 : Nat) (w : World) (hn : n ≤ 1048576) (hK0 : 1 ≤ K0) (hK : K0 ≤ 10000000000000) (hlo : base ≤ g) (hhi : g < top) (h0 : Pt g (n * 2) w) :
    Calls Tryz.prog 53 #[.slice (some ⟨g, 0, none⟩) n cap, .int .i64 K0] w fun e w' => ∃ K : Nat, e = .returned (.int .i64 K) ∧ 1 ≤ K ∧ K ≤ K0 + n * 2 ∧ Outs base top w w' := by
  have HP := hid_intro h0
  have HT : Hid (∀ (z : Int) (K : Nat), z = K → 1 ≤ K → K ≤ 20000000000000 → ∀ w, Calls Tryz.prog 54 #[.int .i64 z] w fun e w' => (∃ T, e = .returned (.string T)) ∧ Below w.heap.size w w') := hid_intro (fun z K e h0 h w => by subst e; exact mark_some K h0 (by omega) w)
  clear h0
  go_enter Tryz.func53, Tryz.ntmps53
  go_wp2_with fail
  go_loopw [5, 1] (fun x z wr => ∃ i K : Nat, x = .int .i64 (i : Int) ∧ z = .int .i64 (K : Int) ∧ i ≤ n ∧ 1 ≤ K ∧ K ≤ K0 + i * 2 ∧ Hid (Pt g (n * 2) wr) ∧ Hid (Outs base top w wr)) (fun x _ _ => n - (intOf x).toNat)
  case atStart => exact ⟨0, K0, rfl, rfl, by omega, by omega, by omega, HP, hid_intro (Outs.refl _ _ _)⟩
  case round =>
    obtain ⟨i, K, rfl, rfl, hi, hK1, hK2, HP, HO⟩ := hrel
    by_cases hin : i = n
    · subst hin
      go_wp2_with fail
      go_ret
      exact ⟨K, rfl, hK1, hK2, HO.out⟩
    · have h1 : (i : Int) < (n : Int) := by omega
      go_wp2_with fail
      refine (HT.out _ K rfl hK1 (by omega) _).mono ?_
      rintro e w1 ⟨⟨T, rfl⟩, hb⟩
      have HP1 := hid_intro (HP.out.below hb)
      have HO1 := hid_intro (HO.out.below hb)
      clear hb HP HO
      obtain ⟨v0, c0⟩ := HP1.out.has (i * 2) (by omega)
      have f0 := HP1.out.free (i * 2) (by omega)
      obtain ⟨v1, c1⟩ := HP1.out.has (i * 2 + 1) (by omega)
      have f1 := HP1.out.free (i * 2 + 1) (by omega)
      have hgl := HP1.out.lt
      have HP2 := hid_intro ((HP1.out.set (i * 2) (.string T)).set (i * 2 + 1) (.int .i64 ((K : Int) + 1)))
      have HO2 := hid_intro ((HO1.out.put g (i * 2) (.string T) hlo hhi).put g (i * 2 + 1) (.int .i64 ((K : Int) + 1)) hlo hhi)
      clear HP1 HO1
      go_wp2_with fail
      go_roundw
      case rel => exact ⟨i + 1, K + 2, by go_num, by go_num, by omega, by omega, by omega, HP2, HO2⟩
      case measure => simp [intOf]; omega
/-- A catalog that a copy has made may be marked. -/
theorem new_mk {base top : Nat} {g : Nat} {bs : Nat → Nat} {n : Nat} {ms : List Me} {w : World} (h : NewMes base g bs n n ms w) (hS : ∀ i, i < n → (ms.getD i Me.zero).Small) (ht : ∀ i, i < n → bs i < top) (hg : g < top) : MkMes base top g bs (fun i => (ms.getD i Me.zero).ts.length) n w := by
  refine ⟨h.lo, hg, h.pt, fun i hi => ?_, fun i hi => ?_⟩
  · have h1 := (h.inc i hi).1
    have h2 := h.lo
    exact ⟨by omega, ht i hi, by omega, (h.cel i hi).2.2, (hS i hi).2⟩
  · exact (h.cel i hi).1.2.2.2.2.2
theorem Outs.wide {base base' top top' : Nat} {w w' : World} (h : Outs base top w w') (h1 : base' ≤ base) (h2 : top ≤ top') : Outs base' top' w w' :=
  ⟨h.os, h.tape, h.output, h.size, fun k hk hb => h.block k hk (by omega)⟩
theorem Outs.pt {base top g m : Nat} {w w' : World} (h : Outs base top w w') (hp : Pt g m w) (hg : g < base ∨ top ≤ g) : Pt g m w' := by
  have e2 := h.block g hp.lt hg
  exact ⟨by have := h.size; have := hp.lt; omega, fun o ho => by obtain ⟨v, hv⟩ := hp.has o ho; exact ⟨v, (World.cell?_of_block (a := ⟨g, o, none⟩) e2).trans hv⟩, fun o ho => (World.frozen?_of_block (a := ⟨g, o, none⟩) e2).trans (hp.free o ho)⟩
theorem Outs.blk {base top b : Nat} {cs : List Value} {w w' : World} (h : Outs base top w w') (hp : Blk b cs w) (hg : b < base ∨ top ≤ b) : Blk b cs w' :=
  ⟨by have := h.size; have := hp.1; omega, fun i hi => (World.cell?_of_block (a := ⟨b, i, none⟩) (h.block b hp.1 hg)).trans (hp.2 i hi)⟩
set_option maxHeartbeats 4000000 in
theorem markCa (base : Nat) (v : Value) (c : Ca) (w : World) (top : Nat) (hS : c.Small) (h : NewCa base v c w) (ht : ∀ (hh : Nat) (x : Value), v = .agg #[x, .slice (some ⟨hh, 0, none⟩) c.cs.length c.cs.length] → hh < top) :
    Calls Tryz.prog 14 #[v, .int .i64 1] w fun e w' => ∃ K : Nat, e = .returned (.int .i64 K) ∧ 1 ≤ K ∧ K ≤ 20000000000000 ∧ Outs base top w w' := by
  obtain ⟨g, bs, hh, rfl, hN, hgh, hbh, hC, hP⟩ := h
  have hht : hh < top := ht hh _ rfl
  have hhw : hh < w.heap.size := hP.lt
  clear ht
  have hap : ∀ i j, i < c.ms.length → j < c.ms.length → bs i = bs j → i = j := fun i j hi hj e => by
    rcases (show i < j ∨ i = j ∨ j < i by omega) with q | q | q
    · have := (hN.inc j hj).2 i q; omega
    · exact q
    · have := (hN.inc i hi).2 j q; omega
  have HMM := hid_intro (fun W (hW : Below w.heap.size w W) => markMes base hh g bs _ c.ms.length c.ms.length W hS.ml (new_mk (hN.below hW) hS.ms hbh hgh) (fun i j hi hj e => by rw [hap i j hi hj e]))
  have HCC := hid_intro (fun W K (h1 : 1 ≤ K) (h2 : K ≤ 10000000000000) (hp : Pt hh (c.cs.length * 2) W) => markCrs hh top hh c.cs.length c.cs.length K W hS.cl h1 h2 (Nat.le_refl _) hht hp)
  have HP := hid_intro hP
  have hlo := hN.lo
  have HX0 : Hid (Blk w.heap.size [.slice (some ⟨g, 0, none⟩) c.ms.length c.ms.length, .slice (some ⟨hh, 0, none⟩) c.cs.length c.cs.length] (w.alloc (.cells #[.slice (some ⟨g, 0, none⟩) c.ms.length c.ms.length, .slice (some ⟨hh, 0, none⟩) c.cs.length c.cs.length] 36))) := hid_intro (Blk.new w _ _)
  have hal : ∀ o, Below w.heap.size w (w.alloc o) := fun o => (Below.refl _ _).alloc (Nat.le_refl _) _
  have HAL := hid_intro hal
  have HCL : Hid (c.cs.length ≤ 1048576) := hid_intro hS.cl
  clear hN hbh hC hP hap hal hS
  generalize c.ms.length = ml at *
  generalize c.cs.length = cl at *
  go_enter Tryz.func14, Tryz.ntmps14
  go_wp2_with fail
  refine (HMM.out _ (HAL.out _)).mono ?_
  rintro e w1 ⟨K, rfl, hK1, hK2, _, ho1⟩
  have HX1 := hid_intro (ho1.blk HX0.out (by omega))
  have HP1 := hid_intro (ho1.pt (HP.out.below (HAL.out _)) (by omega))
  have HO1 : Hid (Outs base top w w1) := hid_intro (((Outs.refl base top w).below (HAL.out _)).trans (ho1.wide (Nat.le_refl _) (by omega)))
  clear ho1
  have x1 : w1.cell? ⟨w.heap.size, 1, none⟩ = some (.slice (some ⟨hh, 0, none⟩) cl cl) := HX1.out.2 1 (by simp)
  have xl := HX1.out.1
  go_wp2_with fail
  refine (HCC.out _ K hK1 hK2 HP1.out).mono ?_
  rintro e w2 ⟨K2, rfl, hk3, hk4, ho2⟩
  have HO2 := hid_intro (HO1.out.trans (ho2.wide (by omega) (Nat.le_refl _)))
  clear ho2
  go_wp2_with fail
  go_ret
  exact ⟨K2, rfl, hk3, by have := HCL.out; omega, HO2.out⟩
end CatR
end Go.Proofs.YtcilbmhkhllmjaaGreatDoor
namespace Go.Proofs.YtcilbmhkhllmjaaGreatDoor
open Go.ChangeShapes Go.WideShapes Go.ChangeAt Go.RowKit
set_option linter.unusedVariables false
namespace StR
open EvtR (Pt cell_put cell_far)
open CatR (Blk)
/-- The cells from a place on are written. -/
def stL (W : World) (p : Nat) : Nat → List Value → World
  | _, [] => W
  | o, v :: vs => stL (W.setCell ⟨p, o, none⟩ v) p (o + 1) vs
theorem gtr {w w1 w2 : World} {g : Option Nat} (h1 : w.grownBy w1 g) (h2 : w1.grownBy w2 g) : w.grownBy w2 g :=
  ⟨h2.os.trans h1.os, h2.tape.trans h1.tape, h2.output.trans h1.output, Nat.le_trans h1.size h2.size, fun k hk hne => (h2.block k (by have := h1.size; omega) hne).trans (h1.block k hk hne)⟩
theorem stL_grown (p : Nat) : ∀ (vs : List Value) (o : Nat) (W : World), W.grownBy (stL W p o vs) (some p)
  | [], _, W => ⟨rfl, rfl, rfl, Nat.le_refl _, fun _ _ _ => rfl⟩
  | v :: vs, o, W => gtr (RowG.grown_set W p o v) (stL_grown p vs (o + 1) _)
theorem stL_pt {p n : Nat} : ∀ (vs : List Value) (o : Nat) (W : World), Pt p n W → Pt p n (stL W p o vs)
  | [], _, _, h => h
  | v :: vs, o, W, h => stL_pt vs (o + 1) _ (h.set o v)
theorem stL_old {p : Nat} : ∀ (vs : List Value) (o : Nat) (W : World) (j : Nat), j < o → (stL W p o vs).cell? ⟨p, j, none⟩ = W.cell? ⟨p, j, none⟩
  | [], _, _, _, _ => rfl
  | v :: vs, o, W, j, hj => (stL_old vs (o + 1) _ j (by omega)).trans (cell_far o j (by omega) v)
theorem stL_cells {p n : Nat} : ∀ (vs : List Value) (o : Nat) (W : World), Pt p n W → o + vs.length ≤ n → ∀ i, i < vs.length → (stL W p o vs).cell? ⟨p, o + i, none⟩ = vs[i]?
  | [], _, _, _, _, i, hi => absurd hi (by simp)
  | v :: vs, o, W, hp, hn, i, hi => by
    simp only [List.length_cons] at hn hi
    cases i with
    | zero =>
      rw [Nat.add_zero]
      exact (stL_old vs (o + 1) _ o (by omega)).trans ((cell_put hp o (by omega) v).trans rfl)
    | succ i =>
      have := stL_cells vs (o + 1) (W.setCell ⟨p, o, none⟩ v) (hp.set o v) (by omega) i (by omega)
      rw [show o + 1 + i = o + (i + 1) by omega] at this
      exact this.trans rfl
theorem stL_blk {p n : Nat} {vs : List Value} {W : World} (hp : Pt p n W) (hn : vs.length ≤ n) : Blk p vs (stL W p 0 vs) :=
  ⟨(stL_pt vs 0 W hp).lt, fun i hi => by have := stL_cells vs 0 W hp (by omega) i hi; rw [Nat.zero_add] at this; exact this⟩
theorem pt_far {p q n : Nat} {W W' : World} (h : Pt p n W) (hg : W.grownBy W' (some q)) (hne : p ≠ q) : Pt p n W' := by
  have e := hg.block p h.lt (by simpa using hne)
  exact ⟨by have := hg.size; have := h.lt; omega, fun o ho => by obtain ⟨v, hv⟩ := h.has o ho; exact ⟨v, (World.cell?_of_block (a := ⟨p, o, none⟩) e).trans hv⟩, fun o ho => (World.frozen?_of_block (a := ⟨p, o, none⟩) e).trans (h.free o ho)⟩
theorem blk_far {p q : Nat} {cs : List Value} {W W' : World} (h : Blk p cs W) (hg : W.grownBy W' (some q)) (hne : p ≠ q) : Blk p cs W' := by
  have e := hg.block p h.1 (by simpa using hne)
  exact ⟨by have := hg.size; have := h.1; omega, fun i hi => (World.cell?_of_block (a := ⟨p, i, none⟩) e).trans (h.2 i hi)⟩
/-- A new block of cells may be written. -/
theorem pt_new (w : World) (cs : List Value) (T : TypeId) : Pt w.heap.size cs.length (w.alloc (.cells cs.toArray T)) :=
  ⟨by simp, fun o ho => ⟨cs[o], by simp [go_sem, ho]⟩, fun o ho => by simp [go_sem]⟩
end StR
end Go.Proofs.YtcilbmhkhllmjaaGreatDoor
namespace Go.Proofs.YtcilbmhkhllmjaaGreatDoor
open Go.ChangeShapes Go.WideShapes Go.ChangeAt Go.RowKit
set_option linter.unusedVariables false
namespace OwG
open RowG (MadeG Rws cellsAll)
open EvtR (Pt)
open CatR (Blk Blk.new)
open DocR (BlkW)
theorem gtransO {w w1 w2 : World} {g : Option Nat} (h1 : w.grownBy w1 g) (h2 : w1.grownBy w2 g) : w.grownBy w2 g :=
  ⟨h2.os.trans h1.os, h2.tape.trans h1.tape, h2.output.trans h1.output, Nat.le_trans h1.size h2.size, fun k hk hne => (h2.block k (by have := h1.size; omega) hne).trans (h1.block k hk hne)⟩
theorem rgrownO {w w' : World} (hb : Below w.heap.size w w') (row : Option Nat) : w.grownBy w' row := ⟨hb.os, hb.tape, hb.output, hb.size, fun k hk _ => hb.block k hk⟩
theorem gnewG {w wx wy : World} {g X : Nat} (h : w.grownBy wx (some g)) (hg : wx.grownBy wy (some X)) (hX : w.heap.size ≤ X) : w.grownBy wy (some g) := by
  refine ⟨hg.os.trans h.os, hg.tape.trans h.tape, hg.output.trans h.output, Nat.le_trans h.size hg.size, fun k hk hne => ?_⟩
  have hs := h.size
  exact (hg.block k (by omega) (by intro e; cases e; omega)).trans (h.block k hk hne)
theorem gnewR {w wx wy : World} {g : Nat} {row : Option Nat} (h : w.grownBy wx (some g)) (hg : wx.grownBy wy row) (hX : ∀ X, row = some X → w.heap.size ≤ X) : w.grownBy wy (some g) := by
  refine ⟨hg.os.trans h.os, hg.tape.trans h.tape, hg.output.trans h.output, Nat.le_trans h.size hg.size, fun k hk hne => ?_⟩
  have hs := h.size
  exact (hg.block k (by omega) (by intro e; have := hX k e.symm; omega)).trans (h.block k hk hne)
theorem galloc {w wx : World} {g : Nat} (h : w.grownBy wx (some g)) (o : Obj) : w.grownBy (wx.alloc o) (some g) := gtransO h (World.grownBy_alloc wx o _)
theorem blkW_grown {b : Nat} {cs : List Value} {w w' : World} {row : Option Nat} (h : BlkW b cs w) (hg : w.grownBy w' row) (hne : some b ≠ row) : BlkW b cs w' := by
  have e := hg.block b h.1.1 hne
  exact ⟨⟨Nat.lt_of_lt_of_le h.1.1 hg.size, fun i hi => (World.cell?_of_block (a := ⟨b, i, none⟩) e).trans (h.1.2 i hi)⟩, fun i hi => (World.frozen?_of_block (a := ⟨b, i, none⟩) e).trans (h.2 i hi)⟩
theorem blkW_pt {b n : Nat} {cs : List Value} {w : World} (h : BlkW b cs w) (hn : cs.length = n) : Pt b n w := by
  subst hn
  exact ⟨h.1.1, fun o ho => ⟨cs[o], by rw [h.1.2 o ho]; simp [ho]⟩, h.2⟩
theorem stL_blkW {b : Nat} {cs vs : List Value} {w : World} (h : BlkW b cs w) (hn : cs.length = vs.length) : BlkW b vs (StR.stL w b 0 vs) := by
  have hp := blkW_pt h hn
  exact ⟨StR.stL_blk hp (Nat.le_refl _), fun i hi => (StR.stL_pt vs 0 w hp).free i hi⟩
theorem pt_row {p n : Nat} {W W' : World} {row : Option Nat} (h : Pt p n W) (hg : W.grownBy W' row) (hne : some p ≠ row) : Pt p n W' := by
  have e := hg.block p h.lt hne
  exact ⟨by have := hg.size; have := h.lt; omega, fun o ho => by obtain ⟨v, hv⟩ := h.has o ho; exact ⟨v, (World.cell?_of_block (a := ⟨p, o, none⟩) e).trans hv⟩, fun o ho => (World.frozen?_of_block (a := ⟨p, o, none⟩) e).trans (h.free o ho)⟩
theorem own_keepG {w w' : World} {base e size n : Nat} {v : Value} {xs : List Value} {g : Nat} (h : w.ownsRow base e size v n xs) (hg : w.grownBy w' (some g)) (hlt : g < base) : w'.ownsRow base e size v n xs := by
  refine h.kept hg ?_
  rcases hob : v.ownBlock with _ | b
  · exact .inl rfl
  · refine .inr (fun e => ?_)
    have := (h.lt b hob).1
    simp only [Option.some.injEq] at e
    omega
theorem own_apart {w : World} {base e size n base' e' size' n' : Nat} {v v' : Value} {xs xs' : List Value} (h : w.ownsRow base e size v n xs) (h' : w.ownsRow base' e' size' v' n' xs') (hT : e' ≠ e) : ∀ b, v.ownBlock = some b → some b ≠ v'.ownBlock := by
  intro b hb q
  rcases h.2 with ⟨h0, _⟩ | ⟨g, cap, cur, hv, _, hh, _⟩
  · rw [h0] at hb; simp [Value.ownBlock] at hb
  · rw [hv] at hb
    simp only [Value.ownBlock, Option.some.injEq] at hb
    rcases h'.2 with ⟨h0, _⟩ | ⟨g2, cap2, cur2, hv2, _, hh2, _⟩
    · rw [h0] at q; simp [Value.ownBlock] at q
    · rw [hv2] at q
      simp only [Value.ownBlock, Option.some.injEq] at q
      subst hb
      subst q
      rw [hh2] at hh
      simp at hh
      exact hT hh.2
theorem own_keepO {w w' : World} {base e size n : Nat} {v : Value} {xs : List Value} {row : Option Nat} (h : w.ownsRow base e size v n xs) (hg : w.grownBy w' row) (hne : ∀ b, v.ownBlock = some b → some b ≠ row) : w'.ownsRow base e size v n xs := by
  refine h.kept hg ?_
  rcases hob : v.ownBlock with _ | b
  · exact .inl rfl
  · exact .inr (hne b hob)
theorem own_low {w : World} {base base' e size n : Nat} {v : Value} {xs : List Value} (h : w.ownsRow base e size v n xs) (hb : base' ≤ base) : w.ownsRow base' e size v n xs := by
  refine ⟨h.1, ?_⟩
  rcases h.2 with hn | ⟨g, cap, cur, rfl, h1, rest⟩
  · exact .inl hn
  · exact .inr ⟨g, cap, cur, rfl, by omega, rest⟩
theorem own_form {w : World} {base e size n : Nat} {v : Value} {xs : List Value} (h : w.ownsRow base e size v (n + 1) xs) : ∃ b c, v = .slice (some ⟨b, 0, none⟩) (n + 1) c := by
  rcases h.2 with ⟨_, h0⟩ | ⟨g, cap, cur, hv, _⟩
  · omega
  · exact ⟨_, _, hv⟩
theorem cellsAll_snoc {α : Type} (cells : α → List Value) (l : List α) (x : α) : cellsAll cells (l ++ [x]) = cellsAll cells l ++ cells x := by simp [cellsAll]
theorem stay {P : Nat → Option Nat} (h : ∀ k, P k = none → P (k + 1) = none) {i : Nat} (hi : P i = none) : ∀ n, P (i + n) = none
  | 0 => hi
  | n + 1 => h _ (stay h hi n)
theorem s_nil {s : ByteArray} (h : s.size = 0) : s = ⟨#[]⟩ := by
  apply ByteArray.ext
  exact Array.eq_empty_of_size_eq_zero h
/-- The cells of a new block of cells. -/
theorem new_cells (w : World) (cs : List Value) (T : TypeId) : ∀ j u, cs[j]? = some u → (w.alloc (.cells cs.toArray T)).cell? ((⟨w.heap.size, 0, none⟩ : Addr).add j) = some u := by
  intro j u hj
  have hl := (List.getElem?_eq_some_iff.1 hj).1
  have := (Blk.new w cs T).2 j hl
  rw [hj] at this
  rw [← this]
  congr 1
  unfold Addr.add; split <;> simp_all
end OwG
end Go.Proofs.YtcilbmhkhllmjaaGreatDoor
namespace Go.Proofs.YtcilbmhkhllmjaaGreatDoor
open Go.ChangeShapes Go.WideShapes Go.ChangeAt Go.RowKit
set_option linter.unusedVariables false
namespace ChG
open EvtR (Pt)
/-- Only blocks of S have changed. -/
structure Chg (S : Nat → Prop) (w w' : World) : Prop where
  os : w'.os = w.os
  tape : w'.tape = w.tape
  output : w'.output = w.output
  size : w.heap.size ≤ w'.heap.size
  block : ∀ b, b < w.heap.size → ¬ S b → w'.heap[b]? = w.heap[b]?
theorem Chg.refl (S : Nat → Prop) (w : World) : Chg S w w := ⟨rfl, rfl, rfl, Nat.le_refl _, fun _ _ _ => rfl⟩
theorem Chg.below {S : Nat → Prop} {w w1 w2 : World} (h : Chg S w w1) (hb : Below w1.heap.size w1 w2) : Chg S w w2 :=
  ⟨hb.os.trans h.os, hb.tape.trans h.tape, hb.output.trans h.output, Nat.le_trans h.size hb.size, fun b h1 h2 => (hb.block b (by have := h.size; omega)).trans (h.block b h1 h2)⟩
theorem Chg.grown {S : Nat → Prop} {x : Nat} {w w1 w2 : World} (h : Chg S w w1) (hg : w1.grownBy w2 (some x)) (hx : S x) : Chg S w w2 :=
  ⟨hg.os.trans h.os, hg.tape.trans h.tape, hg.output.trans h.output, Nat.le_trans h.size hg.size, fun b h1 h2 => (hg.block b (by have := h.size; omega) (by intro e; simp only [Option.some.injEq] at e; subst e; exact h2 hx)).trans (h.block b h1 h2)⟩
theorem Chg.trans {S : Nat → Prop} {w w1 w2 : World} (h : Chg S w w1) (h2 : Chg S w1 w2) : Chg S w w2 :=
  ⟨h2.os.trans h.os, h2.tape.trans h.tape, h2.output.trans h.output, Nat.le_trans h.size h2.size, fun b h1 hs => (h2.block b (by have := h.size; omega) hs).trans (h.block b h1 hs)⟩
theorem Chg.wide {S S' : Nat → Prop} {w w' : World} (h : Chg S w w') (hs : ∀ b, S b → S' b) : Chg S' w w' :=
  ⟨h.os, h.tape, h.output, h.size, fun b h1 h2 => h.block b h1 (fun q => h2 (hs b q))⟩
theorem Chg.of_below {S : Nat → Prop} {w w' : World} (hb : Below w.heap.size w w') : Chg S w w' := (Chg.refl S w).below hb
/-- Nothing below the blocks of S has changed. -/
theorem Chg.out {S : Nat → Prop} {B : Nat} {a w w' : World} (h : Chg S w w') (hb : Below B a w) (hB : ∀ b, S b → B ≤ b) (ha : B ≤ a.heap.size) : Below B a w' :=
  ⟨h.os.trans hb.os, h.tape.trans hb.tape, h.output.trans hb.output, Nat.le_trans hb.size h.size, fun k hk => (h.block k (by have := hb.size; omega) (fun q => by have := hB k q; omega)).trans (hb.block k hk)⟩
theorem pt_block {p n : Nat} {W W' : World} (h : Pt p n W) (hs : W.heap.size ≤ W'.heap.size) (e : W'.heap[p]? = W.heap[p]?) : Pt p n W' :=
  ⟨by have := h.lt; omega, fun o ho => by obtain ⟨v, hv⟩ := h.has o ho; exact ⟨v, (World.cell?_of_block (a := ⟨p, o, none⟩) e).trans hv⟩, fun o ho => (World.frozen?_of_block (a := ⟨p, o, none⟩) e).trans (h.free o ho)⟩
theorem Chg.pt {S : Nat → Prop} {p n : Nat} {W W' : World} (h : Chg S W W') (hp : Pt p n W) (hn : ¬ S p) : Pt p n W' := pt_block hp h.size (h.block p hp.lt hn)
theorem Chg.blk {S : Nat → Prop} {b : Nat} {cs : List Value} {w w' : World} (h : Chg S w w') (hp : CatR.Blk b cs w) (hn : ¬ S b) : CatR.Blk b cs w' :=
  ⟨by have := h.size; have := hp.1; omega, fun i hi => (World.cell?_of_block (a := ⟨b, i, none⟩) (h.block b hp.1 hn)).trans (hp.2 i hi)⟩
end ChG
end Go.Proofs.YtcilbmhkhllmjaaGreatDoor
namespace Go.Proofs.YtcilbmhkhllmjaaGreatDoor
open Go.ChangeShapes Go.WideShapes Go.ChangeAt Go.RowKit
set_option linter.unusedVariables false
namespace EngR
open CatR ChG
open RowG (grown_set)
open EvtR (Pt cell_far)
/-- What could be written still can. -/
def KP (w w' : World) : Prop := ∀ p n, Pt p n w → Pt p n w'
theorem KP.refl (w : World) : KP w w := fun _ _ h => h
theorem KP.below {w w1 w2 : World} (h : KP w w1) (hb : Below w1.heap.size w1 w2) : KP w w2 := fun p n q => (h p n q).below hb
theorem KP.put {w w1 : World} (h : KP w w1) (g o : Nat) (v : Value) : KP w (w1.setCell ⟨g, o, none⟩ v) := fun p n q => WinR.ptA (h p n q)
theorem KP.trans {w w1 w2 : World} (h : KP w w1) (h2 : KP w1 w2) : KP w w2 := fun p n q => h2 p n (h p n q)
set_option maxRecDepth 100000 in
set_option maxHeartbeats 4000000 in
theorem zStr (g : Nat) (ao : Option Addr) (n cap K0 : Nat) (w : World) (hn : n ≤ 1048576) (h1 : 1 ≤ K0) (hK : K0 ≤ 800000000000000000) (hao : n = 0 ∨ (ao = some ⟨g, 0, none⟩ ∧ Pt g (n * 1) w)) :
    Calls Tryz.prog 55 #[.slice ao n cap, .int .i64 K0] w fun e w' => e = .returned (.int .i64 (K0 + n : Nat)) ∧ Chg (fun b => b = g ∧ 0 < n) w w' ∧ KP w w' := by
  have HAO := hid_intro hao
  have HT : Hid (∀ (z : Int) (K : Nat), z = K → 1 ≤ K → K ≤ 900000000000000000 → ∀ w, Calls Tryz.prog 54 #[.int .i64 z] w fun e w' => (∃ T, e = .returned (.string T)) ∧ Below w.heap.size w w') := hid_intro (fun z K e h0 h w => by subst e; exact mark_some K h0 (by omega) w)
  clear hao
  go_enter Tryz.func55, Tryz.ntmps55
  go_wp2_with fail
  go_loopw [5, 1] (fun x z wr => ∃ i : Nat, x = .int .i64 (i : Int) ∧ z = .int .i64 ((K0 : Int) + (i : Int)) ∧ i ≤ n ∧ Hid (Chg (fun b => b = g ∧ 0 < n) w wr) ∧ Hid (KP w wr)) (fun x _ _ => n - (intOf x).toNat)
  case atStart => exact ⟨0, rfl, by simp, by omega, hid_intro (Chg.refl _ _), hid_intro (KP.refl _)⟩
  case round =>
    obtain ⟨i, rfl, rfl, hi, HG, HA⟩ := hrel
    by_cases hin : i = n
    · subst hin
      go_wp2_with fail
      go_ret
      exact ⟨by go_num, HG.out, HA.out⟩
    · have h1 : (i : Int) < (n : Int) := by omega
      have h0 : 0 < n := by omega
      obtain rfl : ao = some ⟨g, 0, none⟩ := by
        rcases HAO.out with q | q
        · omega
        · exact q.1
      have HP : Hid (Pt g (n * 1) wr) := hid_intro (HA.out _ _ (by
        rcases HAO.out with q | q
        · omega
        · exact q.2))
      go_wp2_with fail
      refine (HT.out _ (K0 + i) (by push_cast; omega) (by omega) (by omega) _).mono ?_
      rintro e w1 ⟨⟨T, rfl⟩, hb⟩
      replace HP := hid_intro (HP.out.below hb)
      replace HG := hid_intro (HG.out.below hb)
      replace HA := hid_intro (HA.out.below hb)
      obtain ⟨v0, c0⟩ := HP.out.has (i) (by omega)
      have f0 := HP.out.free (i) (by omega)
      have HS := hid_intro (HG.out.grown (grown_set _ g (i) (.string T)) ⟨rfl, h0⟩)
      have HK := hid_intro (HA.out.put g (i) (.string T))
      clear HG HA HP hb
      go_wp2_with fail
      go_roundw
      case rel => exact ⟨i + 1, by go_num, by (congr 1) <;> omega, by omega, HS, HK⟩
      case measure => simp [intOf]; omega
set_option maxRecDepth 100000 in
set_option maxHeartbeats 4000000 in
theorem zHrs (g : Nat) (ao : Option Addr) (n cap K0 : Nat) (w : World) (hn : n ≤ 1048576) (h1 : 1 ≤ K0) (hK : K0 ≤ 800000000000000000) (hao : n = 0 ∨ (ao = some ⟨g, 0, none⟩ ∧ Pt g (n * 2) w)) :
    Calls Tryz.prog 56 #[.slice ao n cap, .int .i64 K0] w fun e w' => e = .returned (.int .i64 (K0 + 2 * n : Nat)) ∧ Chg (fun b => b = g ∧ 0 < n) w w' ∧ KP w w' := by
  have HAO := hid_intro hao
  clear hao
  go_enter Tryz.func56, Tryz.ntmps56
  go_wp2_with fail
  go_loopw [5, 1] (fun x z wr => ∃ i : Nat, x = .int .i64 (i : Int) ∧ z = .int .i64 ((K0 : Int) + 2 * (i : Int)) ∧ i ≤ n ∧ Hid (Chg (fun b => b = g ∧ 0 < n) w wr) ∧ Hid (KP w wr)) (fun x _ _ => n - (intOf x).toNat)
  case atStart => exact ⟨0, rfl, by simp, by omega, hid_intro (Chg.refl _ _), hid_intro (KP.refl _)⟩
  case round =>
    obtain ⟨i, rfl, rfl, hi, HG, HA⟩ := hrel
    by_cases hin : i = n
    · subst hin
      go_wp2_with fail
      go_ret
      exact ⟨by go_num, HG.out, HA.out⟩
    · have h1 : (i : Int) < (n : Int) := by omega
      have h0 : 0 < n := by omega
      obtain rfl : ao = some ⟨g, 0, none⟩ := by
        rcases HAO.out with q | q
        · omega
        · exact q.1
      have HP : Hid (Pt g (n * 2) wr) := hid_intro (HA.out _ _ (by
        rcases HAO.out with q | q
        · omega
        · exact q.2))
      obtain ⟨v0, c0⟩ := HP.out.has (i * 2) (by omega)
      have f0 := HP.out.free (i * 2) (by omega)
      obtain ⟨v1, c1⟩ := HP.out.has (i * 2 + 1) (by omega)
      have f1 := HP.out.free (i * 2 + 1) (by omega)
      have HS := hid_intro ((HG.out.grown (grown_set _ g (i * 2) (.int .i64 ((K0 : Int) + 2 * (i : Int)))) ⟨rfl, h0⟩).grown (grown_set _ g (i * 2 + 1) (.int .i64 ((K0 : Int) + 2 * (i : Int) + 1))) ⟨rfl, h0⟩)
      have HK := hid_intro ((HA.out.put g (i * 2) (.int .i64 ((K0 : Int) + 2 * (i : Int)))).put g (i * 2 + 1) (.int .i64 ((K0 : Int) + 2 * (i : Int) + 1)))
      clear HG HA HP
      go_wp2_with fail
      go_roundw
      case rel => exact ⟨i + 1, by go_num, by go_num, by omega, HS, HK⟩
      case measure => simp [intOf]; omega
/-- A list within, marked. -/
def Zin (f k g t : Nat) : Prop := ∀ (a : Option Addr) (n c : Nat) (z : Int) (K : Nat) (W : World), z = (K : Nat) → n ≤ 1048576 → 1 ≤ K → K ≤ 800000000000000000 → WinR.Inn g t a n (n * k) W → Calls Tryz.prog f #[.slice a n c, .int .i64 z] W fun e w' => e = .returned (.int .i64 (K + k * n : Nat)) ∧ Chg (fun b => g < b ∧ b < t) W w' ∧ KP W w'
theorem zin {f k : Nat} (hz : ∀ (g : Nat) (ao : Option Addr) (n cap K0 : Nat) (w : World), n ≤ 1048576 → 1 ≤ K0 → K0 ≤ 800000000000000000 → (n = 0 ∨ (ao = some ⟨g, 0, none⟩ ∧ Pt g (n * k) w)) → Calls Tryz.prog f #[.slice ao n cap, .int .i64 K0] w fun e w' => e = .returned (.int .i64 (K0 + k * n : Nat)) ∧ Chg (fun b => b = g ∧ 0 < n) w w' ∧ KP w w') (g t : Nat) : Zin f k g t := by
  intro a n c z K W e hn h1 hK hI
  subst e
  rcases hI with h0 | ⟨g', e1, e2, e3, e4⟩
  · exact (hz 0 a n c K W hn h1 hK (.inl h0)).mono fun e w' h => ⟨h.1, h.2.1.wide (fun b q => by omega), h.2.2⟩
  · exact (hz g' a n c K W hn h1 hK (.inr ⟨e1, e4⟩)).mono fun e w' h => ⟨h.1, h.2.1.wide (fun b q => by omega), h.2.2⟩
theorem zputWX {g t n o : Nat} {ws : List WinR.Wd} {W : World} (h : WinR.WX g t n ws W) (ho : o % 8 < 6) (v : Value) : WinR.WX g t n ws (W.setCell ⟨g, o, none⟩ v) := fun j hj => by
  obtain ⟨ta, tc, ha, hc', c6, c7, n1, n2⟩ := h j hj
  exact ⟨ta, tc, ha, hc', (cell_far _ _ (by omega) v).trans c6, (cell_far _ _ (by omega) v).trans c7, n1.put, n2.put⟩
theorem zchgWX {g t n : Nat} {ws : List WinR.Wd} {S : Nat → Prop} {W W' : World} (h : WinR.WX g t n ws W) (hg : g < W.heap.size) (hc : Chg S W W') (hS : ∀ b, S b → b ≠ g) (hk : ∀ p m, g < p → p < t → Pt p m W → Pt p m W') : WinR.WX g t n ws W' := fun j hj => by
  obtain ⟨ta, tc, ha, hc', c6, c7, n1, n2⟩ := h j hj
  have f := fun o => World.cell?_of_block (a := ⟨g, o, none⟩) (hc.block g hg (fun q => hS g q rfl))
  exact ⟨ta, tc, ha, hc', (f _).trans c6, (f _).trans c7, n1.imp id (fun ⟨g', e1, e2, e3, e4⟩ => ⟨g', e1, e2, e3, hk _ _ e2 e3 e4⟩), n2.imp id (fun ⟨g', e1, e2, e3, e4⟩ => ⟨g', e1, e2, e3, hk _ _ e2 e3 e4⟩)⟩
set_option maxRecDepth 100000 in
set_option maxHeartbeats 8000000 in
theorem zWns (g t cap K0 n : Nat) (ws : List WinR.Wd) (w : World) (hn : n ≤ 1048576) (hln : ∀ j, j < n → (ws.getD j WinR.Wd.zero).ts.length ≤ 1048576 ∧ (ws.getD j WinR.Wd.zero).hs.length ≤ 1048576) (h1 : 1 ≤ K0) (hK : K0 ≤ 80000000000000000) (ht : g < t) (hP : Pt g (n * 8) w) (hX : WinR.WX g t n ws w) :
    Calls Tryz.prog 15 #[.slice (some ⟨g, 0, none⟩) n cap, .int .i64 K0] w fun e w' => (∃ K : Nat, e = .returned (.int .i64 K) ∧ 1 ≤ K ∧ K ≤ K0 + 4000000 * n) ∧ Chg (fun b => g ≤ b ∧ b < t) w w' ∧ KP w w' := by
  have HLN := hid_intro hln
  have HX0 := hid_intro hX
  have HP0 := hid_intro hP
  have HT : Hid (∀ (z : Int) (K : Nat), z = K → 1 ≤ K → K ≤ 900000000000000000 → ∀ w, Calls Tryz.prog 54 #[.int .i64 z] w fun e w' => (∃ T, e = .returned (.string T)) ∧ Below w.heap.size w w') := hid_intro (fun z K e h0 h w => by subst e; exact mark_some K h0 (by omega) w)
  have HZ0 : Hid (Zin 55 1 g t) := hid_intro (zin (fun g ao n cap K0 w a b c d => (zStr g ao n cap K0 w a b c d).mono fun e w' h => ⟨by rw [Nat.one_mul]; exact h.1, h.2⟩) g t)
  have HZ1 : Hid (Zin 56 2 g t) := hid_intro (zin zHrs g t)
  clear hln hX hP
  go_enter Tryz.func15, Tryz.ntmps15
  go_wp2_with fail
  go_loopw [5, 1] (fun x z wr => ∃ (i K : Nat), x = .int .i64 (i : Int) ∧ z = .int .i64 (K : Int) ∧ i ≤ n ∧ 1 ≤ K ∧ K ≤ K0 + 4000000 * i ∧ Hid (WinR.WX g t n ws wr) ∧ Hid (Chg (fun b => g ≤ b ∧ b < t) w wr) ∧ Hid (KP w wr)) (fun x _ _ => n - (intOf x).toNat)
  case atStart => exact ⟨0, K0, rfl, rfl, by omega, by omega, by omega, HX0, hid_intro (Chg.refl _ _), hid_intro (KP.refl _)⟩
  case round =>
    obtain ⟨i, K, rfl, rfl, hi, k0, k1, HX, HG, HA⟩ := hrel
    by_cases hin : i = n
    · subst hin
      go_wp2_with fail
      go_ret
      exact ⟨⟨K, rfl, by omega, by omega⟩, HG.out, HA.out⟩
    · have h1 : (i : Int) < (n : Int) := by omega
      have HP : Hid (Pt g (n * 8) wr) := hid_intro (HA.out _ _ HP0.out)
      have hgl := HP.out.lt
      go_wp2_with fail
      refine (HT.out _ K (by push_cast; omega) (by omega) (by omega) _).mono ?_
      rintro e w1 ⟨⟨T0, rfl⟩, hb⟩
      replace HP := hid_intro (HP.out.below hb)
      replace HX := hid_intro (zchgWX HX.out (by assumption) (Chg.of_below (S := fun _ => False) hb) (fun _ q => q.elim) (fun _ _ _ _ q => q.below hb))
      replace HG := hid_intro (HG.out.below hb)
      replace HA := hid_intro (HA.out.below hb)
      clear hb hgl
      have hgl := HP.out.lt
      obtain ⟨v0, c0⟩ := HP.out.has (i * 8) (by omega)
      have f0 := HP.out.free (i * 8) (by omega)
      obtain ⟨W0, hW0⟩ : ∃ z, z = (w1.setCell ⟨g, i * 8, none⟩ (.string T0)) := ⟨_, rfl⟩
      have HX2 : Hid (WinR.WX g t n ws W0) := hid_intro (by rw [hW0]; exact (zputWX HX.out (by omega) _))
      have HP2 : Hid (Pt g (n * 8) W0) := hid_intro (by rw [hW0]; exact (HP.out.set _ _))
      have HG2 : Hid (Chg (fun b => g ≤ b ∧ b < t) w W0) := hid_intro (by rw [hW0]; exact (HG.out.grown (grown_set _ g (i * 8) _) ⟨Nat.le_refl _, ht⟩))
      have HA2 : Hid (KP w W0) := hid_intro (by rw [hW0]; exact (HA.out.put g (i * 8) _))
      have HW := hid_intro hW0
      clear hW0 HX HP HG HA
      clear hgl
      have hgl := HP2.out.lt
      go_wp2_with fail
      rw [← HW.out]
      clear HW c0 f0
      have HX := HX2
      have HP := HP2
      have HG := HG2
      have HA := HA2
      clear HX2 HP2 HG2 HA2
      refine (HT.out _ (K + 1) (by push_cast; omega) (by omega) (by omega) _).mono ?_
      rintro e w2 ⟨⟨T1, rfl⟩, hb⟩
      replace HP := hid_intro (HP.out.below hb)
      replace HX := hid_intro (zchgWX HX.out (by assumption) (Chg.of_below (S := fun _ => False) hb) (fun _ q => q.elim) (fun _ _ _ _ q => q.below hb))
      replace HG := hid_intro (HG.out.below hb)
      replace HA := hid_intro (HA.out.below hb)
      clear hb hgl
      have hgl := HP.out.lt
      obtain ⟨v1, c1⟩ := HP.out.has (i * 8 + 1) (by omega)
      have f1 := HP.out.free (i * 8 + 1) (by omega)
      obtain ⟨v2, c2⟩ := HP.out.has (i * 8 + 2) (by omega)
      have f2 := HP.out.free (i * 8 + 2) (by omega)
      obtain ⟨v3, c3⟩ := HP.out.has (i * 8 + 3) (by omega)
      have f3 := HP.out.free (i * 8 + 3) (by omega)
      obtain ⟨v4, c4⟩ := HP.out.has (i * 8 + 4) (by omega)
      have f4 := HP.out.free (i * 8 + 4) (by omega)
      obtain ⟨v5, c5⟩ := HP.out.has (i * 8 + 5) (by omega)
      have f5 := HP.out.free (i * 8 + 5) (by omega)
      obtain ⟨ta, tc, ha, hc', hIN⟩ := HX.out i (by omega)
      obtain ⟨c6, c7, n1, n2⟩ := hIN
      have HN1 := hid_intro n1
      have HN2 := hid_intro n2
      clear n1 n2
      obtain ⟨W1, hW1⟩ : ∃ z, z = (((((w2.setCell ⟨g, i * 8 + 1, none⟩ (.string T1)).setCell ⟨g, i * 8 + 2, none⟩ (.int .i64 ((K : Int) + 1 + 1))).setCell ⟨g, i * 8 + 3, none⟩ (.int .i64 ((K : Int) + 1 + 1 + 1))).setCell ⟨g, i * 8 + 4, none⟩ (.int .i64 ((K : Int) + 1 + 1 + 1 + 1))).setCell ⟨g, i * 8 + 5, none⟩ (.int .i64 ((K : Int) + 1 + 1 + 1 + 1 + 1))) := ⟨_, rfl⟩
      have HX2 : Hid (WinR.WX g t n ws W1) := hid_intro (by rw [hW1]; exact (zputWX (zputWX (zputWX (zputWX (zputWX HX.out (by omega) _) (by omega) _) (by omega) _) (by omega) _) (by omega) _))
      have HP2 : Hid (Pt g (n * 8) W1) := hid_intro (by rw [hW1]; exact (((((HP.out.set _ _).set _ _).set _ _).set _ _).set _ _))
      have HG2 : Hid (Chg (fun b => g ≤ b ∧ b < t) w W1) := hid_intro (by rw [hW1]; exact (((((HG.out.grown (grown_set _ g (i * 8 + 1) _) ⟨Nat.le_refl _, ht⟩).grown (grown_set _ g (i * 8 + 2) _) ⟨Nat.le_refl _, ht⟩).grown (grown_set _ g (i * 8 + 3) _) ⟨Nat.le_refl _, ht⟩).grown (grown_set _ g (i * 8 + 4) _) ⟨Nat.le_refl _, ht⟩).grown (grown_set _ g (i * 8 + 5) _) ⟨Nat.le_refl _, ht⟩))
      have HA2 : Hid (KP w W1) := hid_intro (by rw [hW1]; exact (((((HA.out.put g (i * 8 + 1) _).put g (i * 8 + 2) _).put g (i * 8 + 3) _).put g (i * 8 + 4) _).put g (i * 8 + 5) _))
      have HM0 : Hid (WinR.Inn g t ta ((ws.getD i WinR.Wd.zero).ts.length) (((ws.getD i WinR.Wd.zero).ts.length) * 1) W1) := hid_intro (by rw [hW1]; exact (WinR.Inn.put (g := g) (WinR.Inn.put (g := g) (WinR.Inn.put (g := g) (WinR.Inn.put (g := g) (WinR.Inn.put (g := g) HN1.out))))))
      have hl := HLN.out i (by omega)
      have hl0 := hl.1
      have hl1 := hl.2
      clear hl
      generalize hq0 : (ws.getD i WinR.Wd.zero).ts.length = l0 at *
      have HQ0 := hid_intro hq0
      clear hq0
      generalize hq1 : (ws.getD i WinR.Wd.zero).hs.length = l1 at *
      have HQ1 := hid_intro hq1
      clear hq1
      have HW := hid_intro hW1
      clear hW1 HX HP HG HA
      clear hgl
      have hgl := HP2.out.lt
      clear HN1 HN2
      go_wp2_with fail
      rw [← HW.out]
      clear HW c1 f1 c2 f2 c3 f3 c4 f4 c5 f5
      have HX := HX2
      have HP := HP2
      have HG := HG2
      have HA := HA2
      clear HX2 HP2 HG2 HA2
      refine (HZ0.out _ _ _ _ (K + 6) _ (by push_cast; omega) hl0 (by omega) (by omega) HM0.out).mono ?_
      rintro e u0 ⟨rfl, hc, hk⟩
      replace HX := hid_intro (zchgWX HX.out hgl hc (fun b q => by omega) (fun p m _ _ h => hk p m h))
      replace HP := hid_intro (hk _ _ HP.out)
      replace HG := hid_intro (HG.out.trans (hc.wide (fun b q => by omega)))
      replace HA := hid_intro (HA.out.trans hk)
      clear hc hk hgl
      have hgl := HP.out.lt
      obtain ⟨ta2, tc2, ha2, hc2, _, d7, _, m2⟩ := HX.out i (by omega)
      rw [HQ1.out] at d7 m2
      have HM1 := hid_intro m2
      clear m2
      go_wp2_with fail
      refine (HZ1.out _ _ _ _ ((K + 6) + 1 * l0) _ (by push_cast; omega) hl1 (by omega) (by omega) HM1.out).mono ?_
      rintro e u1 ⟨rfl, hc, hk⟩
      replace HX := hid_intro (zchgWX HX.out hgl hc (fun b q => by omega) (fun p m _ _ h => hk p m h))
      replace HP := hid_intro (hk _ _ HP.out)
      replace HG := hid_intro (HG.out.trans (hc.wide (fun b q => by omega)))
      replace HA := hid_intro (HA.out.trans hk)
      clear hc hk
      go_wp2_with fail
      go_roundw
      case rel => exact ⟨i + 1, (((K + 6) + 1 * l0) + 2 * l1), by go_num, by go_num, by omega, by omega, by omega, HX, HG, HA⟩
      case measure => simp [intOf]; omega
end EngR
end Go.Proofs.YtcilbmhkhllmjaaGreatDoor
namespace Go.Proofs.YtcilbmhkhllmjaaGreatDoor
open Go.ChangeShapes Go.WideShapes Go.ChangeAt Go.RowKit
set_option linter.unusedVariables false
namespace EngR
open ChG
open EvtR (Pt)
/-- What lies in blocks from base on is as it was. -/
structure Kq (base : Nat) (w w' : World) : Prop where
  size : w.heap.size ≤ w'.heap.size
  block : ∀ k, base ≤ k → k < w.heap.size → w'.heap[k]? = w.heap[k]?
theorem Kq.refl (base : Nat) (w : World) : Kq base w w := ⟨Nat.le_refl _, fun _ _ _ => rfl⟩
theorem Kq.below {base : Nat} {w w1 w2 : World} (h : Kq base w w1) (hb : Below w1.heap.size w1 w2) : Kq base w w2 :=
  ⟨Nat.le_trans h.size hb.size, fun k h1 h2 => (hb.block k (by have := h.size; omega)).trans (h.block k h1 h2)⟩
theorem Kq.chg {base : Nat} {S : Nat → Prop} {w w1 w2 : World} (h : Kq base w w1) (hc : Chg S w1 w2) (hS : ∀ b, S b → b < base) : Kq base w w2 :=
  ⟨Nat.le_trans h.size hc.size, fun k h1 h2 => (hc.block k (by have := h.size; omega) (fun q => by have := hS k q; omega)).trans (h.block k h1 h2)⟩
theorem own_kq {W W' : World} {base e size n : Nat} {v : Value} {xs : List Value} (h : W.ownsRow base e size v n xs) (hk : Kq base W W') : W'.ownsRow base e size v n xs := by
  have hl := h.lt
  obtain ⟨h1, h2⟩ := h
  refine ⟨h1, h2.imp id ?_⟩
  rintro ⟨g, cap, cur, rfl, hg, hh, rest⟩
  refine ⟨g, cap, cur, rfl, hg, ?_, rest⟩
  rw [hk.block g hg (hl g rfl).2]
  exact hh
theorem Kq.cell {base : Nat} {w w' : World} (h : Kq base w w') {b : Nat} (hb : base ≤ b) (hl : b < w.heap.size) (o : Nat) : w'.cell? ⟨b, o, none⟩ = w.cell? ⟨b, o, none⟩ := World.cell?_of_block (a := ⟨b, o, none⟩) (h.block b hb hl)
theorem Kq.pt {base b n : Nat} {w w' : World} (h : Kq base w w') (hp : Pt b n w) (hb : base ≤ b) : Pt b n w' := pt_block hp h.size (h.block b hb hp.lt)
theorem Kq.low {base base' : Nat} {w w' : World} (h : Kq base w w') (hb : base ≤ base') : Kq base' w w' := ⟨h.size, fun k h1 h2 => h.block k (by omega) h2⟩
theorem Kq.trans {base : Nat} {w w1 w2 : World} (h : Kq base w w1) (h2 : Kq base w1 w2) : Kq base w w2 := ⟨Nat.le_trans h.size h2.size, fun k h3 h4 => (h2.block k h3 (by have := h.size; omega)).trans (h.block k h3 h4)⟩
theorem rws_kq {α : Type} {k : Nat} {cells : α → List Value} {z : α} {ao : Option Addr} {xs : List α} {base : Nat} {w w' : World} (h : RowG.Rws k cells z ao xs w) (hk : Kq base w w') (hb : xs.length = 0 ∨ ∀ b off, ao = some ⟨b, off, none⟩ → base ≤ b) : RowG.Rws k cells z ao xs w' := by
  rcases h with h0 | ⟨b, off, e, hl, hc⟩
  · exact .inl h0
  · rcases hb with h0 | hb
    · exact .inl h0
    · exact .inr ⟨b, off, e, Nat.lt_of_lt_of_le hl hk.size, fun j hj i hi => (hk.cell (hb b off e) hl _).trans (hc j hj i hi)⟩
end EngR
end Go.Proofs.YtcilbmhkhllmjaaGreatDoor
namespace Go.Proofs.YtcilbmhkhllmjaaGreatDoor
open Go.ChangeShapes Go.WideShapes Go.ChangeAt Go.RowKit
set_option linter.unusedVariables false
namespace LinR
open RowG
open EvtR (Pt)
/-- A line. -/
structure N where
  i : ByteArray
  n : Int
def N.v (e : N) : Value := .agg #[.string e.i, .int .i64 e.n]
def N.zero : N := ⟨⟨#[]⟩, 0⟩
def N.cells (e : N) : List Value := [.string e.i, .int .i64 e.n]
theorem N.len (e : N) : e.cells.length = 2 := rfl
/-- The row holds these lines. -/
def Lis (ao : Option Addr) (es : List N) (w : World) : Prop := Rws 2 N.cells N.zero ao es w
theorem Lis.below {ao : Option Addr} {es : List N} {w w' : World} (h : Lis ao es w) (hb : Below w.heap.size w w') : Lis ao es w' := Rws.below h hb
theorem Lis.at {ao : Option Addr} {es : List N} {w : World} (h : Lis ao es w) (j : Nat) (hj : j < es.length) : ∃ b off, ao = some ⟨b, off, none⟩ ∧ b < w.heap.size ∧ w.cell? ⟨b, off + j * 2, none⟩ = some (.string (es.getD j N.zero).i) ∧ w.cell? ⟨b, off + j * 2 + 1, none⟩ = some (.int .i64 (es.getD j N.zero).n) := by
  obtain ⟨b, off, h1, h2, h3⟩ := Rws.at h j hj
  exact ⟨b, off, h1, h2, h3 0 (by omega), h3 1 (by omega)⟩
/-- How many letters the lines hold. -/
def szL (es : List N) : Int := (es.map (fun e => (e.i.size : Int))).sum
theorem szL_nn (es : List N) : 0 ≤ szL es := by
  unfold szL
  induction es with
  | nil => simp
  | cons e es ih => simp only [List.map_cons, List.sum_cons]; omega
theorem szL_take (es : List N) (k : Nat) (h : k < es.length) : szL (es.take (k + 1)) = szL (es.take k) + ((es.getD k N.zero).i.size : Int) := by
  unfold szL
  rw [take_more (z := N.zero) es k h, List.map_append, List.sum_append]
  simp
theorem szL_le (es : List N) (k : Nat) : szL (es.take k) ≤ szL es := by
  have := szL_nn (es.drop k)
  have e : szL es = szL (es.take k) + szL (es.drop k) := by
    unfold szL
    rw [← List.sum_append, ← List.map_append, List.take_append_drop]
  omega
/-- What is left of the law's size. -/
def szR (es : List N) : Int := if (es.length : Int) + szL es ≤ 1048576 then 1048576 - (es.length : Int) - szL es else -1
theorem infoN : (Tryz.prog.info? 58).map (fun i => (i.zero, i.size, i.bytes)) = some (some (.agg #[.string ⟨#[]⟩, .int .i64 0]), 2, 24) := by kernel_rfl
theorem row_fullL {w : World} {base e g n s : Nat} {xs : List Value} (h : w.ownsRow base e s (.slice (some ⟨g, 0, none⟩) n n) n xs) : Pt g (n * s) w := by
  rcases h.2 with ⟨h1, _⟩ | ⟨g', cap, cur, h1, _, hg, _, _, hs, _⟩
  · simp at h1
  · simp at h1
    obtain ⟨rfl, rfl⟩ := h1
    refine ⟨(Array.getElem?_eq_some_iff.1 hg).1, fun o ho => ⟨cur[o]'(by omega), ?_⟩, fun o ho => ?_⟩
    · have : o < cur.size := by omega
      simp [World.cell?, hg, this]
    · simp [World.frozen?, hg]
theorem eqLine_any (i : ByteArray) (n : Int) (w : World) : Calls Tryz.prog 100 #[.agg #[.string i, .int .i64 n], .agg #[.string i, .int .i64 n]] w fun e w' => e = .returned (.bool true) ∧ Below w.heap.size w w' := by
  go_enter Tryz.func100, Tryz.ntmps100
  go_wp2
  go_ret
  refine ⟨rfl, ?_⟩
  repeat' first | exact Below.refl _ _ | apply Below.setCell | apply Below.alloc
  all_goals first | omega | (simp; done) | (simp; omega)
set_option maxHeartbeats 4000000 in
theorem eqLis_any (ao bo : Option Addr) (cap cap' : Nat) (es : List N) (w : World) (hlen : es.length ≤ 1048576) (hI : Lis ao es w) (hJ : Lis bo es w) :
    Calls Tryz.prog 48 #[.slice ao es.length cap, .slice bo es.length cap'] w fun e w' => e = .returned (.bool true) ∧ Below w.heap.size w w' := by
  have HI := hid_intro hI
  have HJ := hid_intro hJ
  obtain ⟨len, hl⟩ : ∃ len, len = es.length := ⟨_, rfl⟩
  rw [← hl] at hlen ⊢
  have HL := hid_intro hl
  clear hI hJ hl
  go_enter Tryz.func48, Tryz.ntmps48
  go_wp2_with fail
  go_loopw [5] (fun z wr => ∃ k : Nat, k ≤ len ∧ z = .int .i64 k ∧ Hid (Below w.heap.size w wr)) (fun z _ => len - (intOf z).toNat)
  case atStart => exact ⟨0, by omega, rfl, hid_intro (Below.refl _ _)⟩
  case round =>
    obtain ⟨k, hk, rfl, HW⟩ := hrel
    by_cases hlt : k < len
    · have hlt2 : (k : Int) < (len : Int) := by omega
      obtain ⟨b, off, rfl, _, c0, c1⟩ := (HI.out.below HW.out).at k (by have := HL.out; omega)
      obtain ⟨b', off', rfl, _, e0, e1⟩ := (HJ.out.below HW.out).at k (by have := HL.out; omega)
      generalize es.getD k N.zero = X at *
      obtain ⟨xi, xn⟩ := X
      have HC := hid_intro (fun w => eqLine_any xi xn w)
      go_wp2_with fail
      go_region_with (go_at_call 100; refine (HC.out _).mono ?_; rintro e w1 ⟨rfl, hb⟩)
      all_goals (
        have HB1 := hid_intro (HW.out.drew.trans (hb.mono HW.out.drew.size))
        clear hb c0 c1 e0 e1
        go_wp2_with fail
        go_roundw
        case rel => exact ⟨k + 1, by omega, by go_num, HB1⟩
        case measure => simp [intOf]; omega)
    · have hlt2 : ¬ (k : Int) < (len : Int) := by omega
      go_wp2_with fail
      go_ret
      exact ⟨rfl, HW.out⟩
end LinR
end Go.Proofs.YtcilbmhkhllmjaaGreatDoor
