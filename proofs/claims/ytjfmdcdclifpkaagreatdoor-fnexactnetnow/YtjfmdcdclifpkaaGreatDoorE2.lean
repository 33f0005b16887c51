/-
  Lists of texts that the law is given: how many letters, the law's own copies, held against each other, marked. The condition: at most 1048576 of each.
  What the program calls a name is what the model calls one, of every text of at most 1048576 bytes. No condition.
  The order of texts. No condition.
  Names of sources that are right: both sides say the same. The condition: at most 1048576 names of at most 1048576 bytes.
-/
import Derived.Deep.RegionWith
import Derived.Deep.QuietTactic
import Derived.Deep.RegionHeld3
import Derived.BigQuiet
import Derived.Test.YtjfmdcdclifpkaaGreatDoorE1
namespace Go.Proofs.YtjfmdcdclifpkaaGreatDoor
open Go.ChangeShapes Go.WideShapes Go.ChangeAt Go.RowKit
set_option linter.unusedVariables false
namespace StxR
open RowG
open EvtR (Pt)
open MarkR (mk mT)
theorem bdN {B : Nat} {a w : World} (h : Below B a w) (n : Nat) : Below B a (w.drewN n) := ⟨h.os, h.tape, h.output, h.size, h.block⟩
def tz : ByteArray := ⟨#[]⟩
def tcells (t : ByteArray) : List Value := [.string t]
theorem t_len (t : ByteArray) : (tcells t).length = 1 := rfl
def Tgs (ao : Option Addr) (ts : List ByteArray) (w : World) : Prop := Rws 1 tcells tz ao ts w
theorem Tgs.below {ao : Option Addr} {ts : List ByteArray} {w w' : World} (h : Tgs ao ts w) (hb : Below w.heap.size w w') : Tgs ao ts w' := Rws.below h hb
theorem Tgs.at {ao : Option Addr} {ts : List ByteArray} {w : World} (h : Tgs ao ts w) (j : Nat) (hj : j < ts.length) : ∃ b off, ao = some ⟨b, off, none⟩ ∧ b < w.heap.size ∧ w.cell? ⟨b, off + j, none⟩ = some (.string (ts.getD j tz)) := by
  obtain ⟨b, off, h1, h2, h3⟩ := Rws.at h j hj
  have := h3 0 (by omega)
  rw [Nat.mul_one] at this
  exact ⟨b, off, h1, h2, this⟩
/-- How many letters tags hold. -/
def tsz (ts : List ByteArray) : Int := (ts.map (fun t => (t.size : Int))).sum
theorem tsz_nn (ts : List ByteArray) : 0 ≤ tsz ts := by
  unfold tsz
  induction ts with
  | nil => simp
  | cons e es ih => simp only [List.map_cons, List.sum_cons]; omega
theorem tsz_take (ts : List ByteArray) (k : Nat) (h : k < ts.length) : tsz (ts.take (k + 1)) = tsz (ts.take k) + ((ts.getD k tz).size : Int) := by
  unfold tsz
  rw [take_more (z := tz) ts k h, List.map_append, List.sum_append]
  simp
theorem tsz_le (ts : List ByteArray) (k : Nat) : tsz (ts.take k) ≤ tsz ts := by
  have := tsz_nn (ts.drop k)
  have e : tsz ts = tsz (ts.take k) + tsz (ts.drop k) := by
    unfold tsz
    rw [← List.sum_append, ← List.map_append, List.take_append_drop]
  omega
theorem tsz_mem {ts : List ByteArray} {t : ByteArray} (h : t ∈ ts) : (t.size : Int) ≤ tsz ts := by
  unfold tsz
  induction ts with
  | nil => simp at h
  | cons e es ih =>
    have := tsz_nn es
    unfold tsz at this
    simp only [List.map_cons, List.sum_cons]
    rcases List.mem_cons.1 h with rfl | h
    · omega
    · have := ih h; omega
/-- What is left of the law's size behind tags. -/
def tszR (ts : List ByteArray) (left : Int) : Int := if (ts.length : Int) + tsz ts ≤ left then left - (ts.length : Int) - tsz ts else -1
set_option maxHeartbeats 4000000 in
theorem szT_any (ao : Option Addr) (cap : Nat) (ts : List ByteArray) (left : Int) (w : World) (hm : ts.length ≤ maxLen) (h0 : 0 ≤ left) (h1 : left ≤ 1048576) (hI : Tgs ao ts w) (hw : ∀ t ∈ ts, t.size ≤ maxLen) :
    Calls Tryz.prog 111 #[.slice ao ts.length cap, .int .i64 left] w fun e w' => e = .returned (.int .i64 (tszR ts left)) ∧ Below w.heap.size w w' := by
  obtain ⟨len, hlen⟩ : ∃ len, len = ts.length := ⟨_, rfl⟩
  rw [← hlen] at hm ⊢
  have HZ := hid_intro hlen
  have HI := hid_intro hI
  have HW := hid_intro hw
  have HR : Hid (tszR ts left = if (ts.length : Int) + tsz ts ≤ left then left - (ts.length : Int) - tsz ts else -1) := rfl
  generalize tszR ts left = R at *
  unfold maxLen at hm
  clear hI hw hlen
  by_cases hbig : left < (len : Int)
  · have hl2 : left - (len : Int) < 0 := by omega
    have HN : Hid (R = -1) := hid_intro (by rw [HR.out, if_neg]; have := tsz_nn ts; have := HZ.out; omega)
    go_enter Tryz.func111, Tryz.ntmps111
    go_wp2_with fail
    go_ret
    exact ⟨ret_int HN.out.symm, Below.refl _ _⟩
  have hl : (len : Int) ≤ 1048576 := by omega
  have hl2 : ¬ left - (len : Int) < 0 := by omega
  go_enter Tryz.func111, Tryz.ntmps111
  go_wp2_with fail
  go_loopw [5, 1] (fun x y w' => ∃ (j : Nat) (L : Int), j ≤ len ∧ x = .int .i64 j ∧ y = .int .i64 L ∧ 0 ≤ L ∧ L ≤ 1048576 ∧ Hid (L = left - (len : Int) - tsz (ts.take j)) ∧ Hid (Below w.heap.size w w')) (fun x y w' => len - (intOf x).toNat)
  case atStart => exact ⟨0, left - (len : Int), Nat.zero_le _, rfl, rfl, by omega, by omega, hid_intro (by simp [tsz]), hid_intro (Below.refl _ _)⟩
  case round =>
    obtain ⟨j, L, hj, rfl, rfl, l0, l1, HL, HB⟩ := hrel
    by_cases hlt : j < len
    · obtain ⟨b, off, rfl, hbl, c0⟩ := (HI.out.below HB.out).at j (by have := HZ.out; omega)
      have HS := hid_intro (tsz_take ts j (by have := HZ.out; omega))
      have q1 := HW.out _ (getD_mem (z := tz) ts j (by have := HZ.out; omega))
      unfold maxLen at q1
      generalize ts.getD j tz = X at *
      have hlt2 : (j : Int) < (len : Int) := by omega
      by_cases hs : (X.size : Int) ≤ L
      · have HN : Hid (L - (X.size : Int) = left - (len : Int) - tsz (ts.take (j + 1))) := hid_intro (by rw [HS.out, HL.out]; omega)
        have r2 : ¬ L - (X.size : Int) < 0 := by omega
        go_wp2_with fail
        go_roundw
        case rel => exact ⟨j + 1, _, by omega, by go_num, rfl, by omega, by omega, HN, HB⟩
        case measure => simp [intOf]; omega
      · have HN : Hid (R = -1) := hid_intro (by rw [HR.out, if_neg]; have := tsz_le ts (j + 1); have := HS.out; have := HL.out; have := HZ.out; omega)
        have r2 : L - (X.size : Int) < 0 := by omega
        go_wp2_with fail
        go_ret
        exact ⟨ret_int HN.out.symm, HB.out⟩
    · obtain rfl : j = len := by omega
      have hlt2 : ¬ (j : Int) < (j : Int) := by omega
      have HN : Hid (R = L) := hid_intro (by
        have e := HL.out
        rw [List.take_of_length_le (by have := HZ.out; omega)] at e
        rw [HR.out, if_pos (by have := HZ.out; omega)]; have := HZ.out; omega)
      go_wp2_with fail
      go_ret
      exact ⟨ret_int HN.out.symm, HB.out⟩
theorem infoT : (Tryz.prog.info? 9).map (fun i => (i.zero, i.size, i.bytes)) = some (some (.string ⟨#[]⟩), 1, 16) := by kernel_rfl
theorem row_full {w : World} {base e g n s : Nat} {xs : List Value} (h : w.ownsRow base e s (.slice (some ⟨g, 0, none⟩) n n) n xs) : Pt g (n * s) w := by
  rcases h.2 with ⟨h1, _⟩ | ⟨g', cap, cur, h1, _, hg, _, _, hs, _⟩
  · simp at h1
  · simp at h1
    obtain ⟨rfl, rfl⟩ := h1
    refine ⟨(Array.getElem?_eq_some_iff.1 hg).1, fun o ho => ⟨cur[o]'(by omega), ?_⟩, fun o ho => ?_⟩
    · have : o < cur.size := by omega
      simp [World.cell?, hg, this]
    · simp [World.frozen?, hg]
theorem fill_step {f : Nat → Option Value} {w wr : World} {m j : Nat} (hb : Below w.heap.size w wr) (hp : Pt w.heap.size m wr) (hw : Wr f j w.heap.size wr) (hj : j < m) (v : Value) (hv : f j = some v) :
    Below w.heap.size w (wr.setCell ⟨w.heap.size, j, none⟩ v) ∧ Pt w.heap.size m (wr.setCell ⟨w.heap.size, j, none⟩ v) ∧ Wr f (j + 1) w.heap.size (wr.setCell ⟨w.heap.size, j, none⟩ v) :=
  ⟨hb.setCell (Nat.le_refl _) _, hp.set _ _, hw.more hp hj v hv⟩
theorem cellT (ts : List ByteArray) (o : Nat) : cellAt 1 tcells tz ts o = some (.string (ts.getD o tz)) := by
  unfold cellAt
  rw [Nat.div_one, Nat.mod_one]
  rfl
set_option maxRecDepth 100000 in
set_option maxHeartbeats 4000000 in
theorem toTs_any (ao : Option Addr) (cap : Nat) (ts : List ByteArray) (w : World) (hlen : ts.length ≤ 1048576) (hI : Tgs ao ts w) :
    Calls Tryz.prog 126 #[.slice ao ts.length cap] w fun e w' => e = .returned (.slice (some ⟨w.heap.size, 0, none⟩) ts.length ts.length) ∧ Tgs (some ⟨w.heap.size, 0, none⟩) ts w' ∧ Pt w.heap.size ts.length w' ∧ Below w.heap.size w w' := by
  obtain ⟨i0, hi, hz0, hz1, hz2⟩ := info_parts infoT
  have HI := hid_intro hI
  have HWS : Hid (∀ wr, Wr (cellAt 1 tcells tz ts) (ts.length * 1) w.heap.size wr → w.heap.size < wr.heap.size → Tgs (some ⟨w.heap.size, 0, none⟩) ts wr) := hid_intro (fun wr h hl => Wr.rws h hl)
  obtain ⟨len, hl⟩ : ∃ len, len = ts.length := ⟨_, rfl⟩
  rw [← hl] at hlen HWS ⊢
  have HL := hid_intro hl
  clear hI hl
  go_enter Tryz.func126, Tryz.ntmps126
  go_wp2_with (at_make; refine wpList_make_full _ rfl _ _ 101 rfl w.heap.size 9 i0 (.string ⟨#[]⟩) 1 Tryz.underlying101 hi hz0 hz1 .i64 .i64 _ _ len rfl rfl rfl rfl ?b2 ?b3 ?b4 ?_)
  case b2 => rw [hz2]; omega
  case b3 => unfold maxLen; omega
  case b4 => exact Nat.le_refl _
  intro wm hown hgrow
  have HB0 : Hid (Below w.heap.size w wm) := hid_intro ((Below.refl _ _).grown hgrow (Nat.le_refl _) (fun k e => by cases e))
  have HP0 := hid_intro (row_full hown)
  clear hown hgrow hi hz0 hz1 hz2
  go_wp2_with fail
  go_loopw [4] (fun z wr => ∃ k : Nat, k ≤ len ∧ z = .int .i64 k ∧ Hid (Below w.heap.size w wr) ∧ Hid (Pt w.heap.size (len * 1) wr) ∧ Hid (Wr (cellAt 1 tcells tz ts) k w.heap.size wr)) (fun z _ => len - (intOf z).toNat)
  case atStart => exact ⟨0, by omega, rfl, HB0, HP0, hid_intro (fun o ho => absurd ho (by omega))⟩
  case round =>
    obtain ⟨k, hk, rfl, HB, HP, HW⟩ := hrel
    by_cases hlt : k < len
    · have hlt2 : (k : Int) < (len : Int) := by omega
      obtain ⟨b, off, rfl, hbl, c0⟩ := (HI.out.below HB.out).at k (by have := HL.out; omega)
      have HS0 := hid_intro (fill_step HB.out HP.out HW.out (by omega) (.string (ts.getD k tz)) (cellT ts k))
      generalize ts.getD k tz = X at *
      obtain ⟨v0, d0⟩ := HP.out.has k (by omega)
      have z0 := HP.out.free k (by omega)
      go_wp2_with fail
      go_roundw
      case rel => exact ⟨k + 1, by omega, by go_num, hid_intro HS0.out.1, hid_intro HS0.out.2.1, hid_intro HS0.out.2.2⟩
      case measure => simp [intOf]; omega
    · have hlt2 : ¬ (k : Int) < (len : Int) := by omega
      obtain rfl : k = len := by omega
      go_wp2_with fail
      go_ret
      exact ⟨rfl, HWS.out _ (by rw [Nat.mul_one]; exact HW.out) HP.out.lt, (by have h := HP.out; rwa [Nat.mul_one] at h), HB.out⟩
set_option maxHeartbeats 4000000 in
theorem eqTs_any (ao bo : Option Addr) (cap cap' : Nat) (ts : List ByteArray) (w : World) (hlen : ts.length ≤ 1048576) (hI : Tgs ao ts w) (hJ : Tgs bo ts w) :
    Calls Tryz.prog 148 #[.slice ao ts.length cap, .slice bo ts.length cap'] w fun e w' => e = .returned (.bool true) ∧ Below w.heap.size w w' := by
  have HI := hid_intro hI
  have HJ := hid_intro hJ
  obtain ⟨len, hl⟩ : ∃ len, len = ts.length := ⟨_, rfl⟩
  rw [← hl] at hlen ⊢
  have HL := hid_intro hl
  clear hI hJ hl
  go_enter Tryz.func148, Tryz.ntmps148
  go_wp2_with fail
  go_loopw [5] (fun z wr => ∃ k : Nat, k ≤ len ∧ z = .int .i64 k ∧ Hid (Below w.heap.size w wr)) (fun z _ => len - (intOf z).toNat)
  case atStart => exact ⟨0, by omega, rfl, hid_intro (Below.refl _ _)⟩
  case round =>
    obtain ⟨k, hk, rfl, HW⟩ := hrel
    by_cases hlt : k < len
    · have hlt2 : (k : Int) < (len : Int) := by omega
      obtain ⟨b, off, rfl, _, c0⟩ := (HI.out.below HW.out).at k (by have := HL.out; omega)
      obtain ⟨b', off', rfl, _, e0⟩ := (HJ.out.below HW.out).at k (by have := HL.out; omega)
      generalize ts.getD k tz = X at *
      go_wp2_with fail
      try (go_quiet (fail); go_wp2_with fail)
      go_roundw
      case rel => exact ⟨k + 1, by omega, by go_num, hid_intro (by first | exact HW.out | exact bdN HW.out _)⟩
      case measure => simp [intOf]; omega
    · have hlt2 : ¬ (k : Int) < (len : Int) := by omega
      go_wp2_with fail
      go_ret
      exact ⟨rfl, HW.out⟩
/-- The cells of marked tags. -/
def mtC (K o : Nat) : Option Value := some (.string (mT (K + o)))
theorem mark_st {f : Nat → Option Value} {g m j : Nat} {w0 w : World} (hp : Pt g m w) (hm : Wr f j g w) (hg : w0.grownBy w (some g)) (hj : j < m) (v : Value) (hv : f j = some v) :
    Pt g m (w.setCell ⟨g, j, none⟩ v) ∧ Wr f (j + 1) g (w.setCell ⟨g, j, none⟩ v) ∧ w0.grownBy (w.setCell ⟨g, j, none⟩ v) (some g) :=
  ⟨hp.set _ _, hm.more hp hj v hv, OwG.gtransO hg (grown_set _ g _ _)⟩
set_option maxRecDepth 100000 in
set_option maxHeartbeats 4000000 in
theorem markT (g n cap K : Nat) (w : World) (hn : n ≤ 1048576) (hK : 1 ≤ K ∧ K ≤ 10000000) (h0 : Pt g n w) :
    Calls Tryz.prog 94 #[.slice (some ⟨g, 0, none⟩) n cap, .int .i64 K] w fun e w' => e = .returned (.int .i64 (K + n : Nat)) ∧ Pt g n w' ∧ Wr (mtC K) n g w' ∧ w.grownBy w' (some g) := by
  have HP := hid_intro h0
  obtain ⟨k1, k2⟩ := hK
  have HT : Hid (∀ (z : Int) (L : Nat), z = L → 1 ≤ L → L < 100000000 → ∀ w, Calls Tryz.prog 44 #[.int .i64 z] w fun e w' => e = .returned (.string (mT L)) ∧ Below w.heap.size w w') := hid_intro (fun z L e h0 h w => by subst e; exact MarkR.mark_any L h0 h w)
  clear h0
  go_enter Tryz.func94, Tryz.ntmps94
  go_wp2_with fail
  go_loopw [5, 1] (fun x z wr => ∃ i : Nat, x = .int .i64 (i : Int) ∧ z = .int .i64 ((K : Int) + (i : Int)) ∧ i ≤ n ∧ Hid (Pt g n wr) ∧ Hid (Wr (mtC K) i g wr) ∧ Hid (w.grownBy wr (some g))) (fun x _ _ => n - (intOf x).toNat)
  case atStart => exact ⟨0, rfl, by simp, by omega, HP, hid_intro (fun o ho => absurd ho (by omega)), hid_intro ⟨rfl, rfl, rfl, Nat.le_refl _, fun _ _ _ => rfl⟩⟩
  case round =>
    obtain ⟨i, rfl, rfl, hi, HP, HM, HG⟩ := hrel
    by_cases hin : i = n
    · subst hin
      go_wp2_with fail
      go_ret
      exact ⟨by go_num, HP.out, HM.out, HG.out⟩
    · have h1 : (i : Int) < (n : Int) := by omega
      go_wp2_with fail
      refine (HT.out _ (K + i) (by push_cast; omega) (by omega) (by omega) _).mono ?_
      rintro e w1 ⟨rfl, hb⟩
      have HP1 := hid_intro (HP.out.below hb)
      have HM1 := hid_intro (HM.out.below HP.out hb)
      have HG1 := hid_intro (OwG.gtransO HG.out (OwG.rgrownO hb _))
      obtain ⟨v0, c0⟩ := HP1.out.has i (by omega)
      have f0 := HP1.out.free i (by omega)
      have HS := hid_intro (mark_st HP1.out HM1.out HG1.out (by omega) (.string (mT (K + i))) rfl)
      clear hb HP HM HG HP1 HM1 HG1
      go_wp2_with fail
      go_roundw
      case rel => exact ⟨i + 1, by go_num, by (congr 1) <;> omega, by omega, hid_intro HS.out.1, hid_intro HS.out.2.1, hid_intro HS.out.2.2⟩
      case measure => simp [intOf]; omega
end StxR
end Go.Proofs.YtjfmdcdclifpkaaGreatDoor
namespace Go.Proofs.YtjfmdcdclifpkaaGreatDoor
open Go.ChangeShapes Go.WideShapes Go.ChangeAt Go.RowKit
open Go.ChangeMaps (open_string shut_string)
namespace NameR
/-- May this byte stand at this place of a name? -/
def okAt (i : Nat) (c : Int) : Bool := decide ((97 ≤ c ∧ c ≤ 122) ∨ (i ≠ 0 ∧ ((48 ≤ c ∧ c ≤ 57) ∨ c = 95)))
def upTo (s : ByteArray) (k : Nat) : Prop := ∀ i (h : i < s.size), i < k → okAt i (s[i].toNat : Int) = true
def upToDec (s : ByteArray) (k : Nat) : Decidable (upTo s k) := inferInstanceAs (Decidable (∀ i (h : i < s.size), i < k → okAt i (s[i].toNat : Int) = true))
def nameB (s : ByteArray) : Bool := @decide (1 ≤ s.size ∧ s.size ≤ 20 ∧ upTo s s.size) (@instDecidableAnd _ _ _ (@instDecidableAnd _ _ _ (upToDec s s.size)))
theorem name_size {s : ByteArray} (h : s.size < 1 ∨ 20 < s.size) : nameB s = false := by
  unfold nameB; simp; intro h1 h2; omega
theorem name_no {s : ByteArray} {k : Nat} (h : k < s.size) (hb : okAt k (s[k].toNat : Int) = false) : nameB s = false := by
  unfold nameB; simp; intro _ _ hu; have := hu k h h; simp [hb] at this
theorem name_yes {s : ByteArray} (h1 : 1 ≤ s.size) (h2 : s.size ≤ 20) (hu : upTo s s.size) : nameB s = true := by
  unfold nameB; simp; exact ⟨h1, h2, hu⟩
theorem upTo_zero (s : ByteArray) : upTo s 0 := fun _ _ h => absurd h (by omega)
theorem upTo_succ {s : ByteArray} {k : Nat} (hu : upTo s k) (h : k < s.size) (hb : okAt k (s[k].toNat : Int) = true) : upTo s (k + 1) := by
  intro i hi hk
  by_cases e : i = k
  · subst e; exact hb
  · exact hu i hi (by omega)

set_option maxHeartbeats 2000000 in
theorem spec_any (s : ByteArray) (w : World) (hs : s.size ≤ 1048576) :
    Calls Tryz.prog 115 #[.string s] w fun e w' => e = .returned (.bool (nameB s)) ∧ w' = w := by
  by_cases h1 : s.size < 1
  · have hn := name_size (s := s) (.inl h1)
    rw [hn]
    go_enter Tryz.func115, Tryz.ntmps115
    go_wp2
    go_ret
    exact ⟨rfl, rfl⟩
  by_cases h2 : 20 < s.size
  · have hn := name_size (s := s) (.inr h2)
    rw [hn]
    go_enter Tryz.func115, Tryz.ntmps115
    go_wp2
    go_ret
    exact ⟨rfl, rfl⟩
  go_enter Tryz.func115, Tryz.ntmps115
  go_wp2
  go_loop [3, 4] (fun i _ => ∃ k : Nat, k ≤ s.size ∧ i = .int .i64 k ∧ upTo s k) (fun i _ => s.size - (intOf i).toNat)
  case atStart => exact ⟨0, Nat.zero_le _, rfl, upTo_zero s⟩
  case round =>
    obtain ⟨k, hk, rfl, hu⟩ := hrel
    by_cases hlt : k < s.size
    · have hno := name_no (s := s) hlt
      have hyes := upTo_succ hu hlt
      have HN : Hid (okAt k (s[k].toNat : Int) = false → nameB s = false) := hno
      have HY : Hid (okAt k (s[k].toNat : Int) = true → upTo s (k + 1)) := hyes
      clear hno hyes hu
      by_cases hk0 : k = 0
      · subst hk0
        rcases (show ((s[0].toNat : Int) < 48) ∨ (48 ≤ (s[0].toNat : Int) ∧ (s[0].toNat : Int) ≤ 57) ∨ (57 < (s[0].toNat : Int) ∧ (s[0].toNat : Int) < 95) ∨ (95 ≤ (s[0].toNat : Int) ∧ (s[0].toNat : Int) ≤ 95) ∨ (95 < (s[0].toNat : Int) ∧ (s[0].toNat : Int) < 97) ∨ (97 ≤ (s[0].toNat : Int) ∧ (s[0].toNat : Int) ≤ 122) ∨ 122 < (s[0].toNat : Int) from by omega) with hc | hc | hc | hc | hc | hc | hc
        all_goals
          (first | have a0 : (97 : Int) ≤ (s[0].toNat : Int) := by omega | have a0 : ¬ (97 : Int) ≤ (s[0].toNat : Int) := by omega)
          (first | have a1 : (s[0].toNat : Int) ≤ 122 := by omega | have a1 : ¬ (s[0].toNat : Int) ≤ 122 := by omega)
          (first | have a2 : (48 : Int) ≤ (s[0].toNat : Int) := by omega | have a2 : ¬ (48 : Int) ≤ (s[0].toNat : Int) := by omega)
          (first | have a3 : (s[0].toNat : Int) ≤ 57 := by omega | have a3 : ¬ (s[0].toNat : Int) ≤ 57 := by omega)
          (first | have a5 : ((s[0].toNat : Int) != 95) = true := by simp; omega | have a5 : ((s[0].toNat : Int) != 95) = false := by simp; omega)
          (first | have a6 : ((s[0].toNat : Int) == 95) = true := by simp; omega | have a6 : ((s[0].toNat : Int) == 95) = false := by simp; omega)
          go_wp2
          first
            | (go_ret; exact ⟨ret_bool (HN.out (by unfold okAt; simp; omega)).symm, rfl⟩)
            | (go_round
               case rel => exact ⟨1, by omega, by go_num, HY.out (by unfold okAt; simp; omega)⟩
               case measure => simp [intOf]; omega)
      · rcases (show ((s[k].toNat : Int) < 48) ∨ (48 ≤ (s[k].toNat : Int) ∧ (s[k].toNat : Int) ≤ 57) ∨ (57 < (s[k].toNat : Int) ∧ (s[k].toNat : Int) < 95) ∨ (95 ≤ (s[k].toNat : Int) ∧ (s[k].toNat : Int) ≤ 95) ∨ (95 < (s[k].toNat : Int) ∧ (s[k].toNat : Int) < 97) ∨ (97 ≤ (s[k].toNat : Int) ∧ (s[k].toNat : Int) ≤ 122) ∨ 122 < (s[k].toNat : Int) from by omega) with hc | hc | hc | hc | hc | hc | hc
        all_goals
          (first | have a0 : (97 : Int) ≤ (s[k].toNat : Int) := by omega | have a0 : ¬ (97 : Int) ≤ (s[k].toNat : Int) := by omega)
          (first | have a1 : (s[k].toNat : Int) ≤ 122 := by omega | have a1 : ¬ (s[k].toNat : Int) ≤ 122 := by omega)
          (first | have a2 : (48 : Int) ≤ (s[k].toNat : Int) := by omega | have a2 : ¬ (48 : Int) ≤ (s[k].toNat : Int) := by omega)
          (first | have a3 : (s[k].toNat : Int) ≤ 57 := by omega | have a3 : ¬ (s[k].toNat : Int) ≤ 57 := by omega)
          (first | have a5 : ((s[k].toNat : Int) != 95) = true := by simp; omega | have a5 : ((s[k].toNat : Int) != 95) = false := by simp; omega)
          (first | have a6 : ((s[k].toNat : Int) == 95) = true := by simp; omega | have a6 : ((s[k].toNat : Int) == 95) = false := by simp; omega)
          have a7 : ((k : Int) == 0) = false := by simp; omega
          go_wp2
          first
            | (go_ret; exact ⟨ret_bool (HN.out (by unfold okAt; simp; omega)).symm, rfl⟩)
            | (go_round
               case rel => exact ⟨k + 1, by omega, by go_num, HY.out (by unfold okAt; simp; omega)⟩
               case measure => simp [intOf]; omega)
    · go_wp2
      go_ret
      have : k = s.size := by omega
      subst this
      exact ⟨ret_bool (name_yes (by omega) (by omega) hu).symm, rfl⟩

set_option maxHeartbeats 2000000 in
theorem impl_any (s : ByteArray) (w : World) (hs : s.size ≤ 1048576) :
    Calls Tryz.prog 180 #[.string s] w fun e w' => e = .returned (.bool (nameB s)) ∧ w' = w := by
  by_cases h1 : s.size < 1
  · have hn := name_size (s := s) (.inl h1)
    rw [hn]
    go_enter Tryz.func180, Tryz.ntmps180
    go_wp2
    go_ret
    exact ⟨rfl, rfl⟩
  by_cases h2 : 20 < s.size
  · have hn := name_size (s := s) (.inr h2)
    rw [hn]
    go_enter Tryz.func180, Tryz.ntmps180
    go_wp2
    go_ret
    exact ⟨rfl, rfl⟩
  go_enter Tryz.func180, Tryz.ntmps180
  go_wp2
  go_loop [3, 4, 5] (fun i _ _ => ∃ k : Nat, k ≤ s.size ∧ i = .int .i64 k ∧ upTo s k) (fun i _ _ => s.size - (intOf i).toNat)
  case atStart => exact ⟨0, Nat.zero_le _, rfl, upTo_zero s⟩
  case round =>
    obtain ⟨k, hk, rfl, hu⟩ := hrel
    by_cases hlt : k < s.size
    · have hno := name_no (s := s) hlt
      have hyes := upTo_succ hu hlt
      have HN : Hid (okAt k (s[k].toNat : Int) = false → nameB s = false) := hno
      have HY : Hid (okAt k (s[k].toNat : Int) = true → upTo s (k + 1)) := hyes
      clear hno hyes hu
      by_cases hk0 : k = 0
      · subst hk0
        rcases (show ((s[0].toNat : Int) < 48) ∨ (48 ≤ (s[0].toNat : Int) ∧ (s[0].toNat : Int) ≤ 57) ∨ (57 < (s[0].toNat : Int) ∧ (s[0].toNat : Int) < 95) ∨ (95 ≤ (s[0].toNat : Int) ∧ (s[0].toNat : Int) ≤ 95) ∨ (95 < (s[0].toNat : Int) ∧ (s[0].toNat : Int) < 97) ∨ (97 ≤ (s[0].toNat : Int) ∧ (s[0].toNat : Int) ≤ 122) ∨ 122 < (s[0].toNat : Int) from by omega) with hc | hc | hc | hc | hc | hc | hc
        all_goals
          (first | have a0 : (97 : Int) ≤ (s[0].toNat : Int) := by omega | have a0 : ¬ (97 : Int) ≤ (s[0].toNat : Int) := by omega)
          (first | have a1 : (s[0].toNat : Int) ≤ 122 := by omega | have a1 : ¬ (s[0].toNat : Int) ≤ 122 := by omega)
          (first | have a2 : (48 : Int) ≤ (s[0].toNat : Int) := by omega | have a2 : ¬ (48 : Int) ≤ (s[0].toNat : Int) := by omega)
          (first | have a3 : (s[0].toNat : Int) ≤ 57 := by omega | have a3 : ¬ (s[0].toNat : Int) ≤ 57 := by omega)
          (first | have a5 : ((s[0].toNat : Int) != 95) = true := by simp; omega | have a5 : ((s[0].toNat : Int) != 95) = false := by simp; omega)
          (first | have a6 : ((s[0].toNat : Int) == 95) = true := by simp; omega | have a6 : ((s[0].toNat : Int) == 95) = false := by simp; omega)
          go_wp2
          first
            | (go_ret; exact ⟨ret_bool (HN.out (by unfold okAt; simp; omega)).symm, rfl⟩)
            | (go_round
               case rel => exact ⟨1, by omega, by go_num, HY.out (by unfold okAt; simp; omega)⟩
               case measure => simp [intOf]; omega)
      · rcases (show ((s[k].toNat : Int) < 48) ∨ (48 ≤ (s[k].toNat : Int) ∧ (s[k].toNat : Int) ≤ 57) ∨ (57 < (s[k].toNat : Int) ∧ (s[k].toNat : Int) < 95) ∨ (95 ≤ (s[k].toNat : Int) ∧ (s[k].toNat : Int) ≤ 95) ∨ (95 < (s[k].toNat : Int) ∧ (s[k].toNat : Int) < 97) ∨ (97 ≤ (s[k].toNat : Int) ∧ (s[k].toNat : Int) ≤ 122) ∨ 122 < (s[k].toNat : Int) from by omega) with hc | hc | hc | hc | hc | hc | hc
        all_goals
          (first | have a0 : (97 : Int) ≤ (s[k].toNat : Int) := by omega | have a0 : ¬ (97 : Int) ≤ (s[k].toNat : Int) := by omega)
          (first | have a1 : (s[k].toNat : Int) ≤ 122 := by omega | have a1 : ¬ (s[k].toNat : Int) ≤ 122 := by omega)
          (first | have a2 : (48 : Int) ≤ (s[k].toNat : Int) := by omega | have a2 : ¬ (48 : Int) ≤ (s[k].toNat : Int) := by omega)
          (first | have a3 : (s[k].toNat : Int) ≤ 57 := by omega | have a3 : ¬ (s[k].toNat : Int) ≤ 57 := by omega)
          (first | have a5 : ((s[k].toNat : Int) != 95) = true := by simp; omega | have a5 : ((s[k].toNat : Int) != 95) = false := by simp; omega)
          (first | have a6 : ((s[k].toNat : Int) == 95) = true := by simp; omega | have a6 : ((s[k].toNat : Int) == 95) = false := by simp; omega)
          have a7 : ((k : Int) == 0) = false := by simp; omega
          go_wp2
          first
            | (go_ret; exact ⟨ret_bool (HN.out (by unfold okAt; simp; omega)).symm, rfl⟩)
            | (go_round
               case rel => exact ⟨k + 1, by omega, by go_num, HY.out (by unfold okAt; simp; omega)⟩
               case measure => simp [intOf]; omega)
    · go_wp2
      go_ret
      have : k = s.size := by omega
      subst this
      exact ⟨ret_bool (name_yes (by omega) (by omega) hu).symm, rfl⟩
end NameR
end Go.Proofs.YtjfmdcdclifpkaaGreatDoor
namespace Go.Proofs.YtjfmdcdclifpkaaGreatDoor
open Go.RowKit
namespace LtR
open Op (bytesLess)
theorem bl_irrefl : ∀ x : List UInt8, bytesLess x x = false
  | [] => rfl
  | a :: x => by
    rw [bytesLess, bl_irrefl x]
    simp
theorem bl_trans : ∀ {x y z : List UInt8}, bytesLess x y = true → bytesLess y z = true → bytesLess x z = true
  | _, [], _, h, _ => by simp [bytesLess] at h
  | _, _ :: _, [], _, h => by simp [bytesLess] at h
  | [], _ :: _, _ :: _, _, _ => rfl
  | a :: x, b :: y, c :: z, h1, h2 => by
    rw [bytesLess] at *
    simp only [Bool.or_eq_true, Bool.and_eq_true, decide_eq_true_eq, beq_iff_eq] at *
    rcases h1 with h1 | ⟨rfl, h1⟩
    · rcases h2 with h2 | ⟨rfl, h2⟩
      · exact .inl (UInt8.lt_trans h1 h2)
      · exact .inl h1
    · rcases h2 with h2 | ⟨rfl, h2⟩
      · exact .inl h2
      · exact .inr ⟨rfl, bl_trans h1 h2⟩
theorem bl_total : ∀ {x y : List UInt8}, bytesLess x y = false → bytesLess y x = false → x = y
  | [], [], _, _ => rfl
  | [], _ :: _, h, _ => by simp [bytesLess] at h
  | _ :: _, [], _, h => by simp [bytesLess] at h
  | a :: x, b :: y, h1, h2 => by
    rw [bytesLess] at *
    simp only [Bool.or_eq_false_iff, Bool.and_eq_false_iff, decide_eq_false_iff_not, beq_eq_false_iff_ne] at *
    have e : a = b := by
      have p1 := h1.1
      have p2 := h2.1
      rw [UInt8.lt_iff_toNat_lt] at p1 p2
      exact UInt8.toNat.inj (by omega)
    subst e
    rw [bl_total (h1.2.resolve_left (fun h => h rfl)) (h2.2.resolve_left (fun h => h rfl))]
/-- One text is ahead of another. -/
def lt (a b : ByteArray) : Bool := bytesLess a.toList b.toList
theorem toList_inj {a b : ByteArray} (h : a.toList = b.toList) : a = b := by
  rw [ByteArray.toList_eq, ByteArray.toList_eq] at h
  exact ByteArray.ext (Array.ext' h)
theorem lt_irrefl (a : ByteArray) : lt a a = false := bl_irrefl _
theorem lt_trans {a b c : ByteArray} (h1 : lt a b = true) (h2 : lt b c = true) : lt a c = true := bl_trans h1 h2
theorem lt_total {a b : ByteArray} (h1 : lt a b = false) (h2 : lt b a = false) : a = b := toList_inj (bl_total h1 h2)
theorem lt_asymm {a b : ByteArray} (h : lt a b = true) : lt b a = false := by
  cases h2 : lt b a
  · rfl
  · have := lt_trans h h2
    rw [lt_irrefl] at this
    cases this
theorem lt_empty {b : ByteArray} (h : 1 ≤ b.size) : lt ⟨#[]⟩ b = true := by
  unfold lt
  have h1 : (⟨#[]⟩ : ByteArray).toList = [] := by rw [ByteArray.toList_eq]
  rw [h1]
  cases hb : b.toList with
  | nil =>
    rw [ByteArray.toList_eq] at hb
    have : b.data.toList.length = 0 := by rw [hb]; rfl
    have h2 : b.data.toList.length = b.size := rfl
    omega
  | cons x l => rfl
end LtR
end Go.Proofs.YtjfmdcdclifpkaaGreatDoor
namespace Go.Proofs.YtjfmdcdclifpkaaGreatDoor
open Go.ChangeShapes Go.WideShapes Go.ChangeAt Go.RowKit
set_option linter.unusedVariables false
namespace StxR
open RowG LtR
open NameR (nameB)
/-- The name ahead, none ahead of the first. -/
def ahd (ns : List ByteArray) : Nat → ByteArray
  | 0 => ⟨#[]⟩
  | k + 1 => ns.getD k tz
def NOk (ns : List ByteArray) (k : Nat) : Prop := ∀ i, i < k → lt (ahd ns i) (ns.getD i tz) = true ∧ nameB (ns.getD i tz) = true
def NRight (ns : List ByteArray) : Prop := (1 ≤ ns.length ∧ ns.length ≤ 3) ∧ NOk ns ns.length
def NOkDec (ns : List ByteArray) (k : Nat) : Decidable (NOk ns k) := inferInstanceAs (Decidable (∀ i, i < k → lt (ahd ns i) (ns.getD i tz) = true ∧ nameB (ns.getD i tz) = true))
def NRightDec (ns : List ByteArray) : Decidable (NRight ns) :=
  haveI := NOkDec ns ns.length
  inferInstanceAs (Decidable ((1 ≤ ns.length ∧ ns.length ≤ 3) ∧ NOk ns ns.length))
/-- Are these right names of sources? -/
def nsB (ns : List ByteArray) : Bool := @decide (NRight ns) (NRightDec ns)
theorem nsB_no {ns : List ByteArray} (h : ¬ NRight ns) : nsB ns = false := by unfold nsB; exact @decide_eq_false _ (NRightDec ns) h
theorem nsB_yes {ns : List ByteArray} (h : NRight ns) : nsB ns = true := by unfold nsB; exact @decide_eq_true _ (NRightDec ns) h
theorem nsB_iff {ns : List ByteArray} : nsB ns = true ↔ NRight ns := by unfold nsB; exact @decide_eq_true_iff _ (NRightDec ns)
theorem NOk.zero (ns : List ByteArray) : NOk ns 0 := fun i h => absurd h (by omega)
theorem NOk.more {ns : List ByteArray} {k : Nat} (h : NOk ns k) (h1 : lt (ahd ns k) (ns.getD k tz) = true) (h2 : nameB (ns.getD k tz) = true) : NOk ns (k + 1) := by
  intro i hi
  by_cases e : i = k
  · subst e; exact ⟨h1, h2⟩
  · exact h i (by omega)
theorem nsB_false {ns : List ByteArray} {k : Nat} (hk : k < ns.length) (h : ¬ (lt (ahd ns k) (ns.getD k tz) = true ∧ nameB (ns.getD k tz) = true)) : nsB ns = false := nsB_no (fun hr => h (hr.2 k hk))
theorem nsB_len {ns : List ByteArray} (h : ¬ (1 ≤ ns.length ∧ ns.length ≤ 3)) : nsB ns = false := nsB_no (fun hr => h hr.1)
theorem name_posN {s : ByteArray} (h : nameB s = true) : 1 ≤ s.size := by
  unfold nameB at h
  simp at h
  exact h.1
/-- One text against another, as the walk asks it. -/
theorem le_casesN (x a : ByteArray) : (Op.bytesLess x.toList a.toList = true ∧ lt a x = false) ∨ (Op.bytesLess x.toList a.toList = false ∧ x.toList = a.toList ∧ (x.toList == a.toList) = true ∧ lt a x = false) ∨ (Op.bytesLess x.toList a.toList = false ∧ x.toList ≠ a.toList ∧ (x.toList == a.toList) = false ∧ lt a x = true) := by
  cases h : lt x a
  · by_cases e : x = a
    · subst e; exact .inr (.inl ⟨h, rfl, by simp, h⟩)
    · have ne : x.toList ≠ a.toList := fun q => e (toList_inj q)
      refine .inr (.inr ⟨h, ne, by simpa using ne, ?_⟩)
      cases h2 : lt a x
      · exact absurd (lt_total h h2) e
      · rfl
  · exact .inl ⟨h, lt_asymm h⟩
theorem with_yes (len : Nat) (w : World) (h41 : (len : Int) ≤ 3) (h42 : (1 : Int) ≤ (len : Int)) : Calls Tryz.prog 181 #[.int .i64 (len : Int), .int .i64 1, .int .i64 3] w fun e w' => e = .returned (.bool true) ∧ w' = w := by
  go_enter Tryz.func181, Tryz.ntmps181
  go_wp2_with fail
  go_ret
  exact ⟨rfl, rfl⟩
set_option maxRecDepth 100000 in
set_option maxHeartbeats 4000000 in
theorem impl_names (ao : Option Addr) (cap : Nat) (ns : List ByteArray) (w : World) (hlen : ns.length ≤ 1048576) (hS : ∀ e ∈ ns, e.size ≤ 1048576) (hI : Tgs ao ns w) :
    Calls Tryz.prog 132 #[.slice ao ns.length cap] w fun e w' => e = .returned (.bool (nsB ns)) ∧ Below w.heap.size w w' := by
  by_cases h40 : 1 ≤ ns.length ∧ ns.length ≤ 3
  rotate_left
  · have HR := hid_intro (nsB_len h40)
    obtain ⟨len, hl⟩ : ∃ len, len = ns.length := ⟨_, rfl⟩
    rw [← hl] at hlen h40 ⊢
    clear hI hS hl
    rcases (show len = 0 ∨ 3 < len by omega) with rfl | h4
    · go_enter Tryz.func132, Tryz.ntmps132
      go_wp2_with (go_at_call 181; go_in)
      go_ret
      exact ⟨ret_bool HR.out.symm, Below.refl _ _⟩
    · have h41 : ¬ (len : Int) ≤ 3 := by omega
      have h42 : (1 : Int) ≤ (len : Int) := by omega
      go_enter Tryz.func132, Tryz.ntmps132
      go_wp2_with (go_at_call 181; go_in)
      go_ret
      exact ⟨ret_bool HR.out.symm, Below.refl _ _⟩
  · have HT0 := hid_intro (fun k (hk : k < ns.length) => nsB_false (ns := ns) hk)
    have HTE := hid_intro (fun h => nsB_yes (ns := ns) ⟨h40, h⟩)
    have HI := hid_intro hI
    have HS := hid_intro hS
    obtain ⟨len, hl⟩ : ∃ len, len = ns.length := ⟨_, rfl⟩
    rw [← hl] at hlen h40 ⊢
    have HL := hid_intro hl
    have h41 : (len : Int) ≤ 3 := by omega
    have h42 : (1 : Int) ≤ (len : Int) := by omega
    clear hI hS hl
    generalize nsB ns = R at *
    go_enter Tryz.func132, Tryz.ntmps132
    go_wp2_with (go_at_call 181; refine (with_yes len _ h41 h42).mono ?_; rintro e w1 ⟨rfl, hw1⟩; rw [hw1]; clear hw1 w1)
    go_loopw [3, 12] (fun x z wr => ∃ k : Nat, k ≤ len ∧ x = .string (ahd ns k) ∧ z = .int .i64 k ∧ Hid (NOk ns k) ∧ Hid (Below w.heap.size w wr)) (fun x z _ => len - (intOf z).toNat)
    case atStart => exact ⟨0, by omega, rfl, rfl, hid_intro (NOk.zero ns), hid_intro (Below.refl _ _)⟩
    case round =>
      obtain ⟨k, hk, rfl, rfl, HK, HB⟩ := hrel
      by_cases hlt : k < len
      · have hlt2 : (k : Int) < (len : Int) := by omega
        obtain ⟨b, off, rfl, hbl, c0⟩ := (HI.out.below HB.out).at k (by have := HL.out; omega)
        have hsz := HS.out _ (getD_mem (z := tz) ns k (by have := HL.out; omega))
        have HM := hid_intro (fun h1 h2 => HK.out.more (k := k) h1 h2)
        have HF := hid_intro (HT0.out k (by have := HL.out; omega))
        have HA : Hid (ahd ns (k + 1) = ns.getD k tz) := rfl
        generalize ahd ns k = a at *
        generalize ns.getD k tz = xi at *
        have H1 := hid_intro (fun w => NameR.impl_any xi w hsz)
        rcases le_casesN xi a with ⟨q1, q2⟩ | ⟨q1, q3, q4, q2⟩ | ⟨q1, q3, q4, q2⟩
        · have HR : Hid (R = false) := hid_intro (HF.out (fun h => by rw [q2] at h; exact absurd h.1 (by simp)))
          clear HM HF q2
          go_wp2_with fail
          go_ret
          exact ⟨ret_bool HR.out.symm, HB.out⟩
        · have HR : Hid (R = false) := hid_intro (HF.out (fun h => by rw [q2] at h; exact absurd h.1 (by simp)))
          clear HM HF q2
          go_wp2_with fail
          go_ret
          exact ⟨ret_bool HR.out.symm, HB.out⟩
        · generalize nameB xi = b1 at *
          cases b1
          · have HR : Hid (R = false) := hid_intro (HF.out (fun h => absurd h.2 (by simp)))
            clear HM HF q2
            go_wp2_with (go_at_call 180; refine (H1.out _).mono ?_; rintro e w1 ⟨rfl, rfl⟩)
            go_ret
            exact ⟨ret_bool HR.out.symm, HB.out⟩
          · replace HM := hid_intro (HM.out q2 rfl)
            clear HF q2
            go_wp2_with (go_at_call 180; refine (H1.out _).mono ?_; rintro e w1 ⟨rfl, rfl⟩)
            go_roundw
            case rel => exact ⟨k + 1, by omega, by rw [HA.out], by go_num, HM, HB⟩
            case measure => simp [intOf]; omega
      · have hlt2 : ¬ (k : Int) < (len : Int) := by omega
        obtain rfl : k = len := by omega
        have HR : Hid (R = true) := hid_intro (HTE.out (by rw [← HL.out]; exact HK.out))
        go_wp2_with fail
        go_ret
        exact ⟨ret_bool HR.out.symm, HB.out⟩
/-- A source with no mark yet. -/
def scells (t : ByteArray) : List Value := [.string t, .int .i64 0]
theorem s_len (t : ByteArray) : (scells t).length = 2 := rfl
def Srs (ao : Option Addr) (ns : List ByteArray) (w : World) : Prop := Rws 2 scells tz ao ns w
theorem Srs.below {ao : Option Addr} {ns : List ByteArray} {w w' : World} (h : Srs ao ns w) (hb : Below w.heap.size w w') : Srs ao ns w' := Rws.below h hb
theorem Srs.at {ao : Option Addr} {ns : List ByteArray} {w : World} (h : Srs ao ns w) (j : Nat) (hj : j < ns.length) : ∃ b off, ao = some ⟨b, off, none⟩ ∧ b < w.heap.size ∧ w.cell? ⟨b, off + j * 2, none⟩ = some (.string (ns.getD j tz)) ∧ w.cell? ⟨b, off + j * 2 + 1, none⟩ = some (.int .i64 0) := by
  obtain ⟨b, off, h1, h2, h3⟩ := Rws.at h j hj
  exact ⟨b, off, h1, h2, h3 0 (by omega), h3 1 (by omega)⟩
theorem sminute (w : World) : Calls Tryz.prog 47 #[.int .i64 0] w fun e w' => e = .returned (.bool true) ∧ w' = w := by
  go_enter Tryz.func47, Tryz.ntmps47
  go_wp2_with (go_at_call 99; go_in)
  go_ret
  exact ⟨rfl, rfl⟩
set_option maxRecDepth 100000 in
set_option maxHeartbeats 4000000 in
theorem spec_srcs (ao : Option Addr) (cap : Nat) (ns : List ByteArray) (w : World) (hlen : ns.length ≤ 1048576) (hS : ∀ e ∈ ns, e.size ≤ 1048576) (hI : Srs ao ns w) :
    Calls Tryz.prog 64 #[.slice ao ns.length cap] w fun e w' => e = .returned (.bool (nsB ns)) ∧ Below w.heap.size w w' := by
  have HT0 := hid_intro (fun k (hk : k < ns.length) => nsB_false (ns := ns) hk)
  have HTE : Hid (NOk ns ns.length → nsB ns = decide (1 ≤ ns.length ∧ ns.length ≤ 3)) := hid_intro (fun h => by
    by_cases e : 1 ≤ ns.length ∧ ns.length ≤ 3
    · rw [decide_eq_true e]; exact nsB_yes ⟨e, h⟩
    · rw [decide_eq_false e]; exact nsB_no (fun hr => e hr.1))
  have HI := hid_intro hI
  have HS := hid_intro hS
  obtain ⟨len, hl⟩ : ∃ len, len = ns.length := ⟨_, rfl⟩
  rw [← hl] at hlen ⊢
  have HL := hid_intro hl
  clear hI hS hl
  generalize nsB ns = R at *
  go_enter Tryz.func64, Tryz.ntmps64
  go_wp2_with fail
  go_loopw [3] (fun z wr => ∃ k : Nat, k ≤ len ∧ z = .int .i64 k ∧ Hid (NOk ns k) ∧ Hid (Below w.heap.size w wr)) (fun z _ => len - (intOf z).toNat)
  case atStart => exact ⟨0, by omega, rfl, hid_intro (NOk.zero ns), hid_intro (Below.refl _ _)⟩
  case round =>
    obtain ⟨k, hk, rfl, HK, HB⟩ := hrel
    by_cases hlt : k < len
    · have hlt2 : (k : Int) < (len : Int) := by omega
      obtain ⟨b, off, rfl, hbl, c0, c1⟩ := (HI.out.below HB.out).at k (by have := HL.out; omega)
      have hsz := HS.out _ (getD_mem (z := tz) ns k (by have := HL.out; omega))
      have HM := hid_intro (fun h1 h2 => HK.out.more (k := k) h1 h2)
      have HF := hid_intro (HT0.out k (by have := HL.out; omega))
      rcases (show k = 0 ∨ ∃ j, k = j + 1 from by rcases k with _ | j; exact .inl rfl; exact .inr ⟨j, rfl⟩) with rfl | ⟨j, hkj⟩
      · have HA : Hid (ahd ns 0 = ⟨#[]⟩) := rfl
        simp only [Nat.zero_mul, Nat.add_zero] at c0 c1
        generalize ahd ns 0 = a at *
        generalize ns.getD 0 tz = xi at *
        have H1 := hid_intro (fun w => NameR.spec_any xi w hsz)
        have HP := hid_intro (name_posN (s := xi))
        generalize nameB xi = b1 at *
        cases b1
        · have HR : Hid (R = false) := hid_intro (HF.out (fun h => absurd h.2 (by simp)))
          clear HM HF HP
          go_wp2_with fail
          go_quiet ((first | (go_at_call 115; exact Calls.quiet_of_same (H1.out _)) | (go_at_call 47; exact Calls.quiet_of_same (sminute _))))
          go_wp2_with fail
          go_ret
          exact ⟨ret_bool HR.out.symm, bdN HB.out _⟩
        · have HM2 := hid_intro (HM.out (by rw [HA.out]; exact lt_empty (HP.out rfl)) rfl)
          clear HM HF HP
          go_wp2_with fail
          go_quiet ((first | (go_at_call 115; exact Calls.quiet_of_same (H1.out _)) | (go_at_call 47; exact Calls.quiet_of_same (sminute _))))
          go_wp2_with fail
          go_roundw
          case rel => exact ⟨0 + 1, by omega, by go_num, HM2, hid_intro (bdN HB.out _)⟩
          case measure => simp [intOf]; omega
      · obtain ⟨b', off', hbo, hbl', d0, d1⟩ := (HI.out.below HB.out).at j (by have := HL.out; omega)
        obtain ⟨rfl, rfl⟩ : b = b' ∧ off = off' := by simpa using hbo
        have HA : Hid (ahd ns k = ns.getD j tz) := hid_intro (by rw [hkj]; rfl)
        clear d1 hbl' hbo
        generalize ns.getD j tz = yi at *
        generalize ahd ns k = a at *
        generalize ns.getD k tz = xi at *
        have H1 := hid_intro (fun w => NameR.spec_any xi w hsz)
        generalize nameB xi = b1 at *
        have hj1 : IntKind.i64.wrap ((k : Int) - 1) = (j : Int) := by rw [IntKind.wrap_i64]; omega
        have hj2 : 0 < k := by omega
        have hj3 : (j : Int) < (len : Int) := by omega
        clear hkj
        cases b1
        · have HR : Hid (R = false) := hid_intro (HF.out (fun h => absurd h.2 (by simp)))
          clear HM HF
          go_wp2_with fail
          go_quiet ((first | (go_at_call 115; exact Calls.quiet_of_same (H1.out _)) | (go_at_call 47; exact Calls.quiet_of_same (sminute _))))
          go_wp2_with fail
          go_ret
          exact ⟨ret_bool HR.out.symm, bdN HB.out _⟩
        rcases le_casesN xi yi with ⟨q1, q2⟩ | ⟨q1, q3, q4, q2⟩ | ⟨q1, q3, q4, q2⟩
        · have HR : Hid (R = false) := hid_intro (HF.out (fun h => by rw [HA.out, q2] at h; exact absurd h.1 (by simp)))
          have q5 : Op.bytesLess yi.toList xi.toList = false := lt_asymm q1
          clear HM HF q2
          go_wp2_with fail
          go_quiet ((first | (go_at_call 115; exact Calls.quiet_of_same (H1.out _)) | (go_at_call 47; exact Calls.quiet_of_same (sminute _))))
          go_wp2_with fail
          go_ret
          exact ⟨ret_bool HR.out.symm, bdN HB.out _⟩
        · have HR : Hid (R = false) := hid_intro (HF.out (fun h => by rw [HA.out, q2] at h; exact absurd h.1 (by simp)))
          obtain rfl := toList_inj q3
          have q5 : Op.bytesLess xi.toList xi.toList = false := q1
          clear HM HF q2 q3 q4
          go_wp2_with fail
          go_quiet ((first | (go_at_call 115; exact Calls.quiet_of_same (H1.out _)) | (go_at_call 47; exact Calls.quiet_of_same (sminute _))))
          go_wp2_with fail
          go_ret
          exact ⟨ret_bool HR.out.symm, bdN HB.out _⟩
        · have q5 : Op.bytesLess yi.toList xi.toList = true := q2
          have HM2 := hid_intro (HM.out (by rw [HA.out]; exact q2) rfl)
          clear HM HF q2
          go_wp2_with fail
          go_quiet ((first | (go_at_call 115; exact Calls.quiet_of_same (H1.out _)) | (go_at_call 47; exact Calls.quiet_of_same (sminute _))))
          go_wp2_with fail
          go_roundw
          case rel => exact ⟨k + 1, by omega, by go_num, HM2, hid_intro (bdN HB.out _)⟩
          case measure => simp [intOf]; omega
    · have hlt2 : ¬ (k : Int) < (len : Int) := by omega
      obtain rfl : k = len := by omega
      have HR := hid_intro (HTE.out (by rw [← HL.out]; exact HK.out))
      rw [← HL.out] at HR
      rcases (show k = 0 ∨ (1 ≤ k ∧ k ≤ 3) ∨ 3 < k by omega) with rfl | ⟨h1, h3⟩ | h3
      · go_wp2_with (go_at_call 99; go_in)
        go_ret
        exact ⟨ret_bool (by rw [HR.out]; rfl), HB.out⟩
      · have h1' : (1 : Int) ≤ (k : Int) := by omega
        have h3' : (k : Int) ≤ 3 := by omega
        have HR2 : Hid (R = true) := hid_intro (by rw [HR.out]; exact decide_eq_true ⟨h1, h3⟩)
        clear HR h1 h3
        go_wp2_with (go_at_call 99; go_in)
        go_ret
        exact ⟨ret_bool HR2.out.symm, HB.out⟩
      · have h1' : (1 : Int) ≤ (k : Int) := by omega
        have h3' : ¬ (k : Int) ≤ 3 := by omega
        have HR2 : Hid (R = false) := hid_intro (by rw [HR.out]; exact decide_eq_false (by omega))
        clear HR h3
        go_wp2_with (go_at_call 99; go_in)
        go_ret
        exact ⟨ret_bool HR2.out.symm, HB.out⟩
end StxR
end Go.Proofs.YtjfmdcdclifpkaaGreatDoor
