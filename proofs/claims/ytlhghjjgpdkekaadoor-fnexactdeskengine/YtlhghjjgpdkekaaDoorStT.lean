/-
  Lists of texts that the law is given: how many letters, the law's own copies, held against each other, marked. The condition: at most 1048576 of each.
-/
import Derived.Test.YtlhghjjgpdkekaaDoorRowG
import Derived.Test.YtlhghjjgpdkekaaDoorOwG
import Derived.Test.YtlhghjjgpdkekaaDoorMarkT
import Derived.Deep.RegionWith
import Derived.Deep.QuietTactic
namespace Go.Proofs.YtlhghjjgpdkekaaDoor
open Go.ChangeShapes Go.WideShapes Go.ChangeAt Go.RowKit
set_option linter.unusedVariables false
namespace StxR
open RowG
open EvtR (Pt)
open MarkR (mk mT mark_any)
theorem bdN {B : Nat} {a w : World} (h : Below B a w) (n : Nat) : Below B a (w.drewN n) := ⟨h.os, h.tape, h.output, h.size, h.block⟩
def tz : ByteArray := ⟨#[]⟩
def tcells (t : ByteArray) : List Value := [.string t]
theorem t_len (t : ByteArray) : (tcells t).length = 1 := rfl
def Tgs (ao : Option Addr) (ts : List ByteArray) (w : World) : Prop := Rws 1 tcells tz ao ts w
theorem Tgs.below {ao : Option Addr} {ts : List ByteArray} {w w' : World} (h : Tgs ao ts w) (hb : Below w.heap.size w w') : Tgs ao ts w' := Rws.below h hb
theorem Tgs.at {ao : Option Addr} {ts : List ByteArray} {w : World} (h : Tgs ao ts w) (j : Nat) (hj : j < ts.length) : ∃ b off, ao = some ⟨b, off, none⟩ ∧ b < w.heap.size ∧ w.cell? ⟨b, off + j, none⟩ = some (.string (ts.getD j tz)) := by
  obtain ⟨b, off, h1, h2, h3⟩ := Rws.at h j hj
  have := h3 0 (by omega)
  rw [Nat.mul_one] at this
  exact ⟨b, off, h1, h2, this⟩
/-- How many letters tags hold. -/
def tsz (ts : List ByteArray) : Int := (ts.map (fun t => (t.size : Int))).sum
theorem tsz_nn (ts : List ByteArray) : 0 ≤ tsz ts := by
  unfold tsz
  induction ts with
  | nil => simp
  | cons e es ih => simp only [List.map_cons, List.sum_cons]; omega
theorem tsz_take (ts : List ByteArray) (k : Nat) (h : k < ts.length) : tsz (ts.take (k + 1)) = tsz (ts.take k) + ((ts.getD k tz).size : Int) := by
  unfold tsz
  rw [take_more (z := tz) ts k h, List.map_append, List.sum_append]
  simp
theorem tsz_le (ts : List ByteArray) (k : Nat) : tsz (ts.take k) ≤ tsz ts := by
  have := tsz_nn (ts.drop k)
  have e : tsz ts = tsz (ts.take k) + tsz (ts.drop k) := by
    unfold tsz
    rw [← List.sum_append, ← List.map_append, List.take_append_drop]
  omega
theorem tsz_mem {ts : List ByteArray} {t : ByteArray} (h : t ∈ ts) : (t.size : Int) ≤ tsz ts := by
  unfold tsz
  induction ts with
  | nil => simp at h
  | cons e es ih =>
    have := tsz_nn es
    unfold tsz at this
    simp only [List.map_cons, List.sum_cons]
    rcases List.mem_cons.1 h with rfl | h
    · omega
    · have := ih h; omega
/-- What is left of the law's size behind tags. -/
def tszR (ts : List ByteArray) (left : Int) : Int := if (ts.length : Int) + tsz ts ≤ left then left - (ts.length : Int) - tsz ts else -1
theorem infoT : (Tryd.prog.info? 9).map (fun i => (i.zero, i.size, i.bytes)) = some (some (.string ⟨#[]⟩), 1, 16) := by kernel_rfl
theorem row_full {w : World} {base e g n s : Nat} {xs : List Value} (h : w.ownsRow base e s (.slice (some ⟨g, 0, none⟩) n n) n xs) : Pt g (n * s) w := by
  rcases h.2 with ⟨h1, _⟩ | ⟨g', cap, cur, h1, _, hg, _, _, hs, _⟩
  · simp at h1
  · simp at h1
    obtain ⟨rfl, rfl⟩ := h1
    refine ⟨(Array.getElem?_eq_some_iff.1 hg).1, fun o ho => ⟨cur[o]'(by omega), ?_⟩, fun o ho => ?_⟩
    · have : o < cur.size := by omega
      simp [World.cell?, hg, this]
    · simp [World.frozen?, hg]
theorem fill_step {f : Nat → Option Value} {w wr : World} {m j : Nat} (hb : Below w.heap.size w wr) (hp : Pt w.heap.size m wr) (hw : Wr f j w.heap.size wr) (hj : j < m) (v : Value) (hv : f j = some v) :
    Below w.heap.size w (wr.setCell ⟨w.heap.size, j, none⟩ v) ∧ Pt w.heap.size m (wr.setCell ⟨w.heap.size, j, none⟩ v) ∧ Wr f (j + 1) w.heap.size (wr.setCell ⟨w.heap.size, j, none⟩ v) :=
  ⟨hb.setCell (Nat.le_refl _) _, hp.set _ _, hw.more hp hj v hv⟩
theorem cellT (ts : List ByteArray) (o : Nat) : cellAt 1 tcells tz ts o = some (.string (ts.getD o tz)) := by
  unfold cellAt
  rw [Nat.div_one, Nat.mod_one]
  rfl
set_option maxHeartbeats 4000000 in
theorem eqTs_any (ao bo : Option Addr) (cap cap' : Nat) (ts : List ByteArray) (w : World) (hlen : ts.length ≤ 1048576) (hI : Tgs ao ts w) (hJ : Tgs bo ts w) :
    Calls Tryd.prog 66 #[.slice ao ts.length cap, .slice bo ts.length cap'] w fun e w' => e = .returned (.bool true) ∧ Below w.heap.size w w' := by
  have HI := hid_intro hI
  have HJ := hid_intro hJ
  obtain ⟨len, hl⟩ : ∃ len, len = ts.length := ⟨_, rfl⟩
  rw [← hl] at hlen ⊢
  have HL := hid_intro hl
  clear hI hJ hl
  go_enter Tryd.func66, Tryd.ntmps66
  go_wp2_with fail
  go_loopw [5] (fun z wr => ∃ k : Nat, k ≤ len ∧ z = .int .i64 k ∧ Hid (Below w.heap.size w wr)) (fun z _ => len - (intOf z).toNat)
  case atStart => exact ⟨0, by omega, rfl, hid_intro (Below.refl _ _)⟩
  case round =>
    obtain ⟨k, hk, rfl, HW⟩ := hrel
    by_cases hlt : k < len
    · have hlt2 : (k : Int) < (len : Int) := by omega
      obtain ⟨b, off, rfl, _, c0⟩ := (HI.out.below HW.out).at k (by have := HL.out; omega)
      obtain ⟨b', off', rfl, _, e0⟩ := (HJ.out.below HW.out).at k (by have := HL.out; omega)
      generalize ts.getD k tz = X at *
      go_wp2_with fail
      try (go_quiet (fail); go_wp2_with fail)
      go_roundw
      case rel => exact ⟨k + 1, by omega, by go_num, hid_intro (by first | exact HW.out | exact bdN HW.out _)⟩
      case measure => simp [intOf]; omega
    · have hlt2 : ¬ (k : Int) < (len : Int) := by omega
      go_wp2_with fail
      go_ret
      exact ⟨rfl, HW.out⟩
/-- The cells of marked tags. -/
def mtC (K o : Nat) : Option Value := some (.string (mT (K + o)))
theorem mark_st {f : Nat → Option Value} {g m j : Nat} {w0 w : World} (hp : Pt g m w) (hm : Wr f j g w) (hg : w0.grownBy w (some g)) (hj : j < m) (v : Value) (hv : f j = some v) :
    Pt g m (w.setCell ⟨g, j, none⟩ v) ∧ Wr f (j + 1) g (w.setCell ⟨g, j, none⟩ v) ∧ w0.grownBy (w.setCell ⟨g, j, none⟩ v) (some g) :=
  ⟨hp.set _ _, hm.more hp hj v hv, OwG.gtransO hg (grown_set _ g _ _)⟩
set_option maxRecDepth 100000 in
set_option maxHeartbeats 4000000 in
theorem markT (g n cap K : Nat) (w : World) (hn : n ≤ 1048576) (hK : 1 ≤ K ∧ K ≤ 10000000) (h0 : Pt g n w) :
    Calls Tryd.prog 45 #[.slice (some ⟨g, 0, none⟩) n cap, .int .i64 K] w fun e w' => e = .returned (.int .i64 (K + n : Nat)) ∧ Pt g n w' ∧ Wr (mtC K) n g w' ∧ w.grownBy w' (some g) := by
  have HP := hid_intro h0
  obtain ⟨k1, k2⟩ := hK
  have HT : Hid (∀ (z : Int) (L : Nat), z = L → 1 ≤ L → L < 100000000 → ∀ w, Calls Tryd.prog 44 #[.int .i64 z] w fun e w' => e = .returned (.string (mT L)) ∧ Below w.heap.size w w') := hid_intro (fun z L e h0 h w => by subst e; exact mark_any L h0 h w)
  clear h0
  go_enter Tryd.func45, Tryd.ntmps45
  go_wp2_with fail
  go_loopw [5, 1] (fun x z wr => ∃ i : Nat, x = .int .i64 (i : Int) ∧ z = .int .i64 ((K : Int) + (i : Int)) ∧ i ≤ n ∧ Hid (Pt g n wr) ∧ Hid (Wr (mtC K) i g wr) ∧ Hid (w.grownBy wr (some g))) (fun x _ _ => n - (intOf x).toNat)
  case atStart => exact ⟨0, rfl, by simp, by omega, HP, hid_intro (fun o ho => absurd ho (by omega)), hid_intro ⟨rfl, rfl, rfl, Nat.le_refl _, fun _ _ _ => rfl⟩⟩
  case round =>
    obtain ⟨i, rfl, rfl, hi, HP, HM, HG⟩ := hrel
    by_cases hin : i = n
    · subst hin
      go_wp2_with fail
      go_ret
      exact ⟨by go_num, HP.out, HM.out, HG.out⟩
    · have h1 : (i : Int) < (n : Int) := by omega
      go_wp2_with fail
      refine (HT.out _ (K + i) (by push_cast; omega) (by omega) (by omega) _).mono ?_
      rintro e w1 ⟨rfl, hb⟩
      have HP1 := hid_intro (HP.out.below hb)
      have HM1 := hid_intro (HM.out.below HP.out hb)
      have HG1 := hid_intro (OwG.gtransO HG.out (OwG.rgrownO hb _))
      obtain ⟨v0, c0⟩ := HP1.out.has i (by omega)
      have f0 := HP1.out.free i (by omega)
      have HS := hid_intro (mark_st HP1.out HM1.out HG1.out (by omega) (.string (mT (K + i))) rfl)
      clear hb HP HM HG HP1 HM1 HG1
      go_wp2_with fail
      go_roundw
      case rel => exact ⟨i + 1, by go_num, by (congr 1) <;> omega, by omega, hid_intro HS.out.1, hid_intro HS.out.2.1, hid_intro HS.out.2.2⟩
      case measure => simp [intOf]; omega
end StxR
end Go.Proofs.YtlhghjjgpdkekaaDoor
