/-
  What the model calls a right catalog. The condition: all in it is small.
  The credit of an account, either side. The conditions: all in the catalog is small; the program's own error stands in its variable.
  The bytes of a meter and of a catalog, as parts that are joined. No condition.
  What a catalog's text comes to when it is read, by the program and by the model: both read right catalogs alike. Bytes alone. No condition.
  The program's reading of a catalog. The conditions: what the readers ask for; the program's variable holds its error.
  The program's CatalogRead. The conditions: what the readers ask for; the program's variable holds its error.
  The model's reading of a meter. The conditions: what the readers ask for.
  The order of texts. No condition.
-/
import Derived.Deep.RegionHeld3
import Derived.Test.YtgaihlhoegaliaaDoorC2
namespace Go.Proofs.YtgaihlhoegaliaaDoor
open Go.ChangeShapes Go.WideShapes Go.ChangeAt Go.RowKit
set_option linter.unusedVariables false
namespace CatR
theorem blk2 {b : Nat} {x y : Value} {w : World} (hl : b < w.heap.size) (h0 : w.cell? ⟨b, 0, none⟩ = some x) (h1 : w.cell? ⟨b, 1, none⟩ = some y) : Blk b [x, y] w := ⟨hl, fun i hi => by
  match i, hi with
  | 0, _ => exact h0
  | 1, _ => exact h1⟩
/-- What is held through a round's region: the catalog's cells, the meter's, and the name ahead. -/
def BS (w : World) (B b o o' : Nat) (x0 x1 a0 a1 a2 a3 a4 a5 p : Value) (W : World) : Prop := Below w.heap.size w W ∧ B < W.heap.size ∧ b < W.heap.size ∧ W.cell? ⟨B, 0, none⟩ = some x0 ∧ W.cell? ⟨B, 1, none⟩ = some x1 ∧ W.cell? ⟨b, o, none⟩ = some a0 ∧ W.cell? ⟨b, o + 1, none⟩ = some a1 ∧ W.cell? ⟨b, o + 2, none⟩ = some a2 ∧ W.cell? ⟨b, o + 3, none⟩ = some a3 ∧ W.cell? ⟨b, o + 4, none⟩ = some a4 ∧ W.cell? ⟨b, o + 5, none⟩ = some a5 ∧ W.cell? ⟨b, o', none⟩ = some p
theorem BS.below {w : World} {B b o o' : Nat} {x0 x1 a0 a1 a2 a3 a4 a5 p : Value} {W W' : World} (h : BS w B b o o' x0 x1 a0 a1 a2 a3 a4 a5 p W) (hb : Below W.heap.size W W') : BS w B b o o' x0 x1 a0 a1 a2 a3 a4 a5 p W' := by
  obtain ⟨h0, l1, l2, p0, p1, q0, q1, q2, q3, q4, q5, q6⟩ := h
  have f := fun o => hb.cell (p := ⟨B, o, none⟩) l1
  have g := fun o => hb.cell (p := ⟨b, o, none⟩) l2
  have hs := hb.size
  exact ⟨h0.trans (hb.mono h0.size), by omega, by omega, (f _).trans p0, (f _).trans p1, (g _).trans q0, (g _).trans q1, (g _).trans q2, (g _).trans q3, (g _).trans q4, (g _).trans q5, (g _).trans q6⟩
theorem BS.drew {w : World} {B b o o' : Nat} {x0 x1 a0 a1 a2 a3 a4 a5 p : Value} {W : World} (h : BS w B b o o' x0 x1 a0 a1 a2 a3 a4 a5 p W) : BS w B b o o' x0 x1 a0 a1 a2 a3 a4 a5 p W.drew := ⟨h.1.drew, h.2⟩
set_option maxRecDepth 100000 in
set_option maxHeartbeats 8000000 in
theorem spec_ca (v : Value) (c : Ca) (w : World) (hS : c.Small) (hC : IsCa v c w) :
    Calls Tryd.prog 23 #[v] w fun e w' => e = .returned (.bool (caB c)) ∧ Below w.heap.size w w' := by
  obtain ⟨ma, mc, ca, cc, rfl, hM, hR⟩ := hC
  obtain ⟨ms, cs⟩ := c
  obtain ⟨s1, s2, s3, s4⟩ := hS
  simp only at *
  obtain ⟨V, hV⟩ := mes_v hM
  have HVV : Hid (caB ⟨ms, cs⟩ = (msB ms && csB cs)) := rfl
  have HI := hid_intro hV
  have HJ := hid_intro hR
  have HS2 := hid_intro s2
  have HS4 := hid_intro s4
  generalize hml : ms.length = ml at *
  generalize hcl : cs.length = cl at *
  have HML := hid_intro hml
  have HCL := hid_intro hcl
  clear hM hV hR s2 s4 hml hcl
  have HA0 : Hid (Blk w.heap.size [.slice ma ml mc, .slice ca cl cc] (w.alloc (.cells #[.slice ma ml mc, .slice ca cl cc] 25))) := hid_intro (Blk.new w _ _)
  have HB0 : Hid (Below w.heap.size w (w.alloc (.cells #[.slice ma ml mc, .slice ca cl cc] 25))) := hid_intro ((Below.refl _ _).alloc (Nat.le_refl _) _)
  by_cases h6 : 6 < ml
  · have h6' : (6 : Int) < (ml : Int) := by omega
    have HR := hid_intro (ms_many (ms := ms) (by have := HML.out; omega))
    go_enter Tryd.func23, Tryd.ntmps23
    go_wp2_with fail
    go_ret
    exact ⟨ret_bool (by rw [HVV.out, HR.out]; rfl), HB0.out⟩
  · by_cases g6 : 6 < cl
    · have g6' : (6 : Int) < (cl : Int) := by omega
      have h6' : ¬ (6 : Int) < (ml : Int) := by omega
      have HR := hid_intro (cs_many (cs := cs) (by have := HCL.out; omega))
      go_enter Tryd.func23, Tryd.ntmps23
      go_wp2_with fail
      go_ret
      exact ⟨ret_bool (by rw [HVV.out, HR.out]; simp), HB0.out⟩
    · have g6' : ¬ (6 : Int) < (cl : Int) := by omega
      have h6' : ¬ (6 : Int) < (ml : Int) := by omega
      go_enter Tryd.func23, Tryd.ntmps23
      go_wp2_with fail
      go_loopw [3] (fun z wr => ∃ k : Nat, k ≤ ml ∧ z = .int .i64 k ∧ Hid (MOk ms k) ∧ Hid (Below w.heap.size w wr) ∧ Hid (Blk w.heap.size [.slice ma ml mc, .slice ca cl cc] wr)) (fun z _ => ml - (intOf z).toNat)
      case atStart => exact ⟨0, by omega, rfl, hid_intro (MOk.zero ms), HB0, HA0⟩
      case round =>
        obtain ⟨k, hk, rfl, HK, HB, HA⟩ := hrel
        have hbl := HA.out.1
        have q0 : wr.cell? ⟨w.heap.size, 0, none⟩ = some (.slice ma ml mc) := HA.out.2 0 (by simp)
        have q1 : wr.cell? ⟨w.heap.size, 1, none⟩ = some (.slice ca cl cc) := HA.out.2 1 (by simp)
        by_cases hlt : k < ml
        · have hlt2 : (k : Int) < (ml : Int) := by omega
          have hkl : k < ms.length := by have := HML.out; omega
          rcases HI.out.below HB.out with h | ⟨b, off, rfl, hbb, h⟩
          · omega
          have HP : Hid (∀ j, j + 1 = k → wr.cell? ⟨b, off + j * 6, none⟩ = some (.string (mN ms j))) := hid_intro (fun j hj => by
            obtain ⟨_, _, _, q, _⟩ := h j (by omega)
            exact q)
          obtain ⟨ta, tc, hv, c0, c1, c2, c3, c4, c5, _⟩ := h k hlt
          clear h
          have HMR := hid_intro (fun W (hW : Below w.heap.size w W) => spec_meter (V k) (ms.getD k Me.zero) W (HS2.out k hlt).1 (HS2.out k hlt).2 ((HI.out.below hW).is k hlt))
          have HWR := hid_intro (ms_wrong (ms := ms) hkl)
          have HFL := hid_intro (ms_flat (ms := ms) hkl)
          have HMO := hid_intro (fun (h1 : mB (ms.getD k Me.zero) = true) h2 => HK.out.more (mB_iff.1 h1) h2)
          rw [hv] at HMR
          generalize mB (ms.getD k Me.zero) = r at *
          generalize mN ms k = n at *
          generalize (ms.getD k Me.zero).ts.length = tl at *
          generalize (ms.getD k Me.zero).g = g at *
          generalize (ms.getD k Me.zero).wh = wh at *
          generalize (ms.getD k Me.zero).f = f at *
          generalize (ms.getD k Me.zero).l = l at *
          clear hv
          rcases (show k = 0 ∨ ∃ j, j + 1 = k from by rcases k with _ | j; exact .inl rfl; exact .inr ⟨j, rfl⟩) with rfl | ⟨j, hj⟩
          · have HMO0 := hid_intro (fun h => HMO.out h (fun h0 => absurd h0 (by omega)))
            simp only [Nat.zero_mul, Nat.add_zero] at c0 c1 c2 c3 c4 c5
            have HS0 : Hid ((BS w w.heap.size b (off) (off) (.slice (some ⟨b, off, none⟩) ml mc) (.slice ca cl cc) (.string n) (.int .i64 g) (.bool wh) (.int .i64 f) (.int .i64 l) (.slice ta tl tc) (.string n)) wr) := hid_intro ⟨HB.out, hbl, hbb, q0, q1, c0, c1, c2, c3, c4, c5, c0⟩
            obtain ⟨S, hS⟩ : ∃ S : World → Prop, ∀ W, S W ↔ (BS w w.heap.size b (off) (off) (.slice (some ⟨b, off, none⟩) ml mc) (.slice ca cl cc) (.string n) (.int .i64 g) (.bool wh) (.int .i64 f) (.int .i64 l) (.slice ta tl tc) (.string n)) W := ⟨_, fun _ => Iff.rfl⟩
            have HSC : Hid (∀ s : HW S, (BS w w.heap.size b (off) (off) (.slice (some ⟨b, off, none⟩) ml mc) (.slice ca cl cc) (.string n) (.int .i64 g) (.bool wh) (.int .i64 f) (.int .i64 l) (.slice ta tl tc) (.string n)) s.w) := hid_intro (fun s => (hS _).1 s.h)
            have HSB : Hid (∀ (s : HW S) w', Below s.w.heap.size s.w w' → S w') := hid_intro (fun s w' hb => (hS _).2 ((HSC.out s).below hb))
            have HSD : Hid (S wr.drew) := hid_intro ((hS _).2 HS0.out.drew)
            have hne : Nonempty (HW S) := ⟨⟨_, HSD.out⟩⟩
            have e0 : ∀ s : HW S, s.w.cell? ⟨w.heap.size, 0, none⟩ = some (.slice (some ⟨b, off, none⟩) ml mc) := fun s => (HSC.out s).2.2.2.1
            have f0 : ∀ s : HW S, s.w.cell? ⟨b, off, none⟩ = some (.string n) := fun s => (HSC.out s).2.2.2.2.2.1
            have f1 : ∀ s : HW S, s.w.cell? ⟨b, off + 1, none⟩ = some (.int .i64 g) := fun s => (HSC.out s).2.2.2.2.2.2.1
            have f2 : ∀ s : HW S, s.w.cell? ⟨b, off + 2, none⟩ = some (.bool wh) := fun s => (HSC.out s).2.2.2.2.2.2.2.1
            have f3 : ∀ s : HW S, s.w.cell? ⟨b, off + 3, none⟩ = some (.int .i64 f) := fun s => (HSC.out s).2.2.2.2.2.2.2.2.1
            have f4 : ∀ s : HW S, s.w.cell? ⟨b, off + 4, none⟩ = some (.int .i64 l) := fun s => (HSC.out s).2.2.2.2.2.2.2.2.2.1
            have f5 : ∀ s : HW S, s.w.cell? ⟨b, off + 5, none⟩ = some (.slice ta tl tc) := fun s => (HSC.out s).2.2.2.2.2.2.2.2.2.2.1
            have f6 : ∀ s : HW S, s.w.cell? ⟨b, off, none⟩ = some (.string n) := fun s => (HSC.out s).2.2.2.2.2.2.2.2.2.2.2
            clear hS
            clear f6
            cases r
            · have HR := hid_intro (HWR.out rfl)
              go_wp2_with fail
              refine wp_region_hw S (by kernel_rfl) (by kernel_rfl) HSD.out ?_
              repeat (go_big_quiet_step ((rename_i s; go_at_call 37; refine (HMR.out _ (HSC.out s).1).mono ?_; rintro e w1 ⟨rfl, hb1⟩; exact ⟨rfl, ⟨w1, HSB.out s w1 hb1⟩, rfl⟩)))
              refine wpQuiet_nil ?_
              intro _ hw'
              obtain ⟨s, hw''⟩ := hw'
              subst hw''
              have HBF := hid_intro (HSC.out s).1
              go_wp2_with fail
              go_ret
              exact ⟨ret_bool (by rw [HVV.out, HR.out]; rfl), HBF.out⟩
            · have HM := hid_intro (HMO0.out rfl)
              go_wp2_with fail
              refine wp_region_hw S (by kernel_rfl) (by kernel_rfl) HSD.out ?_
              repeat (go_big_quiet_step ((rename_i s; go_at_call 37; refine (HMR.out _ (HSC.out s).1).mono ?_; rintro e w1 ⟨rfl, hb1⟩; exact ⟨rfl, ⟨w1, HSB.out s w1 hb1⟩, rfl⟩)))
              refine wpQuiet_nil ?_
              intro _ hw'
              obtain ⟨s, hw''⟩ := hw'
              subst hw''
              have HBF := hid_intro (HSC.out s).1
              have HAF : Hid (Blk w.heap.size [.slice (some ⟨b, off, none⟩) ml mc, .slice ca cl cc] s.w) := hid_intro (blk2 (HSC.out s).2.1 (HSC.out s).2.2.2.1 (HSC.out s).2.2.2.2.1)
              go_wp2_with fail
              go_roundw
              case rel => exact ⟨0 + 1, by omega, by go_num, HM, HBF, HAF⟩
              case measure => simp [intOf]; omega
          · have p0 := HP.out j hj
            have hj1 : IntKind.i64.wrap ((k : Int) - 1) = (j : Int) := by rw [IntKind.wrap_i64]; omega
            have hj2 : 0 < k := by omega
            have hj3 : (j : Int) < (ml : Int) := by omega
            have ejk : k - 1 = j := by omega
            rw [ejk] at HFL HMO
            clear hj ejk
            generalize hpn : mN ms j = pn at *
            have HPN := hid_intro hpn
            clear hpn
            have HS0 : Hid ((BS w w.heap.size b (off + k * 6) (off + j * 6) (.slice (some ⟨b, off, none⟩) ml mc) (.slice ca cl cc) (.string n) (.int .i64 g) (.bool wh) (.int .i64 f) (.int .i64 l) (.slice ta tl tc) (.string pn)) wr) := hid_intro ⟨HB.out, hbl, hbb, q0, q1, c0, c1, c2, c3, c4, c5, p0⟩
            obtain ⟨S, hS⟩ : ∃ S : World → Prop, ∀ W, S W ↔ (BS w w.heap.size b (off + k * 6) (off + j * 6) (.slice (some ⟨b, off, none⟩) ml mc) (.slice ca cl cc) (.string n) (.int .i64 g) (.bool wh) (.int .i64 f) (.int .i64 l) (.slice ta tl tc) (.string pn)) W := ⟨_, fun _ => Iff.rfl⟩
            have HSC : Hid (∀ s : HW S, (BS w w.heap.size b (off + k * 6) (off + j * 6) (.slice (some ⟨b, off, none⟩) ml mc) (.slice ca cl cc) (.string n) (.int .i64 g) (.bool wh) (.int .i64 f) (.int .i64 l) (.slice ta tl tc) (.string pn)) s.w) := hid_intro (fun s => (hS _).1 s.h)
            have HSB : Hid (∀ (s : HW S) w', Below s.w.heap.size s.w w' → S w') := hid_intro (fun s w' hb => (hS _).2 ((HSC.out s).below hb))
            have HSD : Hid (S wr.drew) := hid_intro ((hS _).2 HS0.out.drew)
            have hne : Nonempty (HW S) := ⟨⟨_, HSD.out⟩⟩
            have e0 : ∀ s : HW S, s.w.cell? ⟨w.heap.size, 0, none⟩ = some (.slice (some ⟨b, off, none⟩) ml mc) := fun s => (HSC.out s).2.2.2.1
            have f0 : ∀ s : HW S, s.w.cell? ⟨b, off + k * 6, none⟩ = some (.string n) := fun s => (HSC.out s).2.2.2.2.2.1
            have f1 : ∀ s : HW S, s.w.cell? ⟨b, off + k * 6 + 1, none⟩ = some (.int .i64 g) := fun s => (HSC.out s).2.2.2.2.2.2.1
            have f2 : ∀ s : HW S, s.w.cell? ⟨b, off + k * 6 + 2, none⟩ = some (.bool wh) := fun s => (HSC.out s).2.2.2.2.2.2.2.1
            have f3 : ∀ s : HW S, s.w.cell? ⟨b, off + k * 6 + 3, none⟩ = some (.int .i64 f) := fun s => (HSC.out s).2.2.2.2.2.2.2.2.1
            have f4 : ∀ s : HW S, s.w.cell? ⟨b, off + k * 6 + 4, none⟩ = some (.int .i64 l) := fun s => (HSC.out s).2.2.2.2.2.2.2.2.2.1
            have f5 : ∀ s : HW S, s.w.cell? ⟨b, off + k * 6 + 5, none⟩ = some (.slice ta tl tc) := fun s => (HSC.out s).2.2.2.2.2.2.2.2.2.2.1
            have f6 : ∀ s : HW S, s.w.cell? ⟨b, off + j * 6, none⟩ = some (.string pn) := fun s => (HSC.out s).2.2.2.2.2.2.2.2.2.2.2
            clear hS
            cases r
            · have HR := hid_intro (HWR.out rfl)
              go_wp2_with fail
              refine wp_region_hw S (by kernel_rfl) (by kernel_rfl) HSD.out ?_
              repeat (go_big_quiet_step ((rename_i s; go_at_call 37; refine (HMR.out _ (HSC.out s).1).mono ?_; rintro e w1 ⟨rfl, hb1⟩; exact ⟨rfl, ⟨w1, HSB.out s w1 hb1⟩, rfl⟩)))
              refine wpQuiet_nil ?_
              intro _ hw'
              obtain ⟨s, hw''⟩ := hw'
              subst hw''
              have HBF := hid_intro (HSC.out s).1
              go_wp2_with fail
              go_ret
              exact ⟨ret_bool (by rw [HVV.out, HR.out]; rfl), HBF.out⟩
            · cases hfl : Op.bytesLess pn.toList n.toList
              · have HR := hid_intro (HFL.out hj2 hfl)
                go_wp2_with fail
                refine wp_region_hw S (by kernel_rfl) (by kernel_rfl) HSD.out ?_
                repeat (go_big_quiet_step ((rename_i s; go_at_call 37; refine (HMR.out _ (HSC.out s).1).mono ?_; rintro e w1 ⟨rfl, hb1⟩; exact ⟨rfl, ⟨w1, HSB.out s w1 hb1⟩, rfl⟩)))
                refine wpQuiet_nil ?_
                intro _ hw'
                obtain ⟨s, hw''⟩ := hw'
                subst hw''
                have HBF := hid_intro (HSC.out s).1
                go_wp2_with fail
                go_ret
                exact ⟨ret_bool (by rw [HVV.out, HR.out]; rfl), HBF.out⟩
              · have HM := hid_intro (HMO.out rfl (fun _ => hfl))
                go_wp2_with fail
                refine wp_region_hw S (by kernel_rfl) (by kernel_rfl) HSD.out ?_
                repeat (go_big_quiet_step ((rename_i s; go_at_call 37; refine (HMR.out _ (HSC.out s).1).mono ?_; rintro e w1 ⟨rfl, hb1⟩; exact ⟨rfl, ⟨w1, HSB.out s w1 hb1⟩, rfl⟩)))
                refine wpQuiet_nil ?_
                intro _ hw'
                obtain ⟨s, hw''⟩ := hw'
                subst hw''
                have HBF := hid_intro (HSC.out s).1
                have HAF : Hid (Blk w.heap.size [.slice (some ⟨b, off, none⟩) ml mc, .slice ca cl cc] s.w) := hid_intro (blk2 (HSC.out s).2.1 (HSC.out s).2.2.2.1 (HSC.out s).2.2.2.2.1)
                go_wp2_with fail
                go_roundw
                case rel => exact ⟨k + 1, by omega, by go_num, HM, HBF, HAF⟩
                case measure => simp [intOf]; omega
        · obtain rfl : k = ml := by omega
          have HMR : Hid (msB ms = true) := hid_intro (ms_end (by have := HML.out; omega) (by rw [HML.out]; exact HK.out))
          go_wp2_with fail
          go_loopw [4] (fun z wx => ∃ q : Nat, q ≤ cl ∧ z = .int .i64 q ∧ Hid (COk cs q) ∧ Hid (Below w.heap.size w wx) ∧ Hid (Blk w.heap.size [.slice ma k mc, .slice ca cl cc] wx)) (fun z _ => cl - (intOf z).toNat)
          case atStart => exact ⟨0, by omega, rfl, hid_intro (COk.zero cs), HB, HA⟩
          case round =>
            clear HK HB HA hbl q0 q1
            obtain ⟨q, hq, rfl, HK, HB, HA⟩ := hrel
            have hbl := HA.out.1
            have q0 : wr.cell? ⟨w.heap.size, 0, none⟩ = some (.slice ma k mc) := HA.out.2 0 (by simp)
            have q1 : wr.cell? ⟨w.heap.size, 1, none⟩ = some (.slice ca cl cc) := HA.out.2 1 (by simp)
            by_cases hlt : q < cl
            · have hlt2 : (q : Int) < (cl : Int) := by omega
              have hkl : q < cs.length := by have := HCL.out; omega
              obtain ⟨b, off, rfl, hbb, d0, d1⟩ := crs_at (HJ.out.below HB.out) q hlt
              have c0 : wr.cell? ⟨b, off + q * 2, none⟩ = some (.string (cA cs q)) := d0
              have c1 : wr.cell? ⟨b, off + q * 2 + 1, none⟩ = some (.int .i64 (cM cs q)) := d1
              have HP : Hid (∀ j, j + 1 = q → wr.cell? ⟨b, off + j * 2, none⟩ = some (.string (cA cs j))) := hid_intro (fun j hj => by
                obtain ⟨b', off', hbo, _, e0, _⟩ := crs_at (HJ.out.below HB.out) j (by omega)
                obtain ⟨rfl, rfl⟩ : b = b' ∧ off = off' := by simpa using hbo
                exact e0)
              clear d0 d1
              have hsz : (cA cs q).size ≤ 1048576 := HS4.out q hlt
              have HN := hid_intro (fun w => NameR.spec_any (cA cs q) w hsz)
              have HW := hid_intro (fun w => isS (cM cs q) 0 1000000000000 w)
              have HNA := hid_intro (cs_name hkl)
              have HMI := hid_intro (cs_micro hkl)
              have HFL := hid_intro (cs_flat (cs := cs) hkl)
              have HMO := hid_intro (fun h1 h3 h2 => HK.out.more (k := q) h1 h3 h2)
              generalize NameR.nameB (cA cs q) = r at *
              generalize cA cs q = a at *
              generalize cM cs q = m at *
              have HAl := hid_intro (fun o => HB.out.alloc HB.out.size o)
              have HBl := hid_intro (fun o => HA.out.alloc o)
              clear hsz
              rcases (show q = 0 ∨ ∃ j, j + 1 = q from by rcases q with _ | j; exact .inl rfl; exact .inr ⟨j, rfl⟩) with rfl | ⟨j, hj⟩
              · simp only [Nat.zero_mul, Nat.add_zero] at c0 c1
                cases r
                · have HR := hid_intro (HNA.out rfl)
                  go_wp2_with fail
                  go_quiet ((first | (go_at_call 38; exact Calls.quiet_of_same (HN.out _)) | (go_at_call 20; exact Calls.quiet_of_same (HW.out _))))
                  go_wp2_with fail
                  go_ret
                  exact ⟨ret_bool (by rw [HVV.out, HR.out]; simp), bdrewN (HAl.out _) _⟩
                · by_cases hm : 0 ≤ m ∧ m ≤ 1000000000000
                  · have HM := hid_intro (HMO.out rfl hm (fun h => absurd h (by omega)))
                    rw [decide_eq_true hm] at HW
                    go_wp2_with fail
                    go_quiet ((first | (go_at_call 38; exact Calls.quiet_of_same (HN.out _)) | (go_at_call 20; exact Calls.quiet_of_same (HW.out _))))
                    go_wp2_with fail
                    go_roundw
                    case rel => exact ⟨0 + 1, by omega, by go_num, HM, hid_intro (bdrewN (HAl.out _) _), hid_intro ((HBl.out _).drewN _)⟩
                    case measure => simp [intOf]; omega
                  · have HR := hid_intro (HMI.out hm)
                    rw [decide_eq_false hm] at HW
                    go_wp2_with fail
                    go_quiet ((first | (go_at_call 38; exact Calls.quiet_of_same (HN.out _)) | (go_at_call 20; exact Calls.quiet_of_same (HW.out _))))
                    go_wp2_with fail
                    go_ret
                    exact ⟨ret_bool (by rw [HVV.out, HR.out]; simp), bdrewN (HAl.out _) _⟩
              · have p0 := HP.out j hj
                have hj1 : IntKind.i64.wrap ((q : Int) - 1) = (j : Int) := by rw [IntKind.wrap_i64]; omega
                have hj2 : 0 < q := by omega
                have hj3 : (j : Int) < (cl : Int) := by omega
                have ejk : q - 1 = j := by omega
                rw [ejk] at HFL HMO
                clear hj ejk
                generalize cA cs j = p at *
                cases r
                · have HR := hid_intro (HNA.out rfl)
                  go_wp2_with fail
                  go_quiet ((first | (go_at_call 38; exact Calls.quiet_of_same (HN.out _)) | (go_at_call 20; exact Calls.quiet_of_same (HW.out _))))
                  go_wp2_with fail
                  go_ret
                  exact ⟨ret_bool (by rw [HVV.out, HR.out]; simp), bdrewN (HAl.out _) _⟩
                · cases hfl : Op.bytesLess p.toList a.toList
                  · have HR := hid_intro (HFL.out hj2 hfl)
                    go_wp2_with fail
                    go_quiet ((first | (go_at_call 38; exact Calls.quiet_of_same (HN.out _)) | (go_at_call 20; exact Calls.quiet_of_same (HW.out _))))
                    go_wp2_with fail
                    go_ret
                    exact ⟨ret_bool (by rw [HVV.out, HR.out]; simp), bdrewN (HAl.out _) _⟩
                  · by_cases hm : 0 ≤ m ∧ m ≤ 1000000000000
                    · have HM := hid_intro (HMO.out rfl hm (fun _ => hfl))
                      rw [decide_eq_true hm] at HW
                      go_wp2_with fail
                      go_quiet ((first | (go_at_call 38; exact Calls.quiet_of_same (HN.out _)) | (go_at_call 20; exact Calls.quiet_of_same (HW.out _))))
                      go_wp2_with fail
                      go_roundw
                      case rel => exact ⟨q + 1, by omega, by go_num, HM, hid_intro (bdrewN (HAl.out _) _), hid_intro ((HBl.out _).drewN _)⟩
                      case measure => simp [intOf]; omega
                    · have HR := hid_intro (HMI.out hm)
                      rw [decide_eq_false hm] at HW
                      go_wp2_with fail
                      go_quiet ((first | (go_at_call 38; exact Calls.quiet_of_same (HN.out _)) | (go_at_call 20; exact Calls.quiet_of_same (HW.out _))))
                      go_wp2_with fail
                      go_ret
                      exact ⟨ret_bool (by rw [HVV.out, HR.out]; simp), bdrewN (HAl.out _) _⟩
            · obtain rfl : q = cl := by omega
              have HR : Hid (csB cs = true) := hid_intro (cs_end (by have := HCL.out; omega) (by rw [HCL.out]; exact HK.out))
              go_wp2_with fail
              go_ret
              exact ⟨ret_bool (by rw [HVV.out, HMR.out, HR.out]; rfl), HB.out⟩
end CatR
end Go.Proofs.YtgaihlhoegaliaaDoor
namespace Go.Proofs.YtgaihlhoegaliaaDoor
open Go.ChangeShapes Go.WideShapes Go.ChangeAt Go.RowKit
set_option linter.unusedVariables false
namespace CatR
/-- The credit of the first of that account, 0 if there is none. -/
def crF (t : ByteArray) : List Cr → Int
  | [] => 0
  | c :: cs => if c.a = t then c.m else crF t cs
theorem crF_hit (t : ByteArray) : ∀ (cs : List Cr) (k : Nat), k < cs.length → (∀ i, i < k → cA cs i ≠ t) → cA cs k = t → crF t cs = cM cs k
  | [], k, h, _, _ => absurd h (by simp)
  | c :: cs, 0, _, _, h => by
    rw [crF, if_pos (show c.a = t from h)]; rfl
  | c :: cs, k + 1, hk, hn, h => by
    rw [crF, if_neg (show ¬ c.a = t from hn 0 (by omega))]
    exact crF_hit t cs k (by simpa using hk) (fun i hi => hn (i + 1) (by omega)) h
theorem crF_none (t : ByteArray) : ∀ (cs : List Cr), (∀ i, i < cs.length → cA cs i ≠ t) → crF t cs = 0
  | [], _ => rfl
  | c :: cs, hn => by
    rw [crF, if_neg (show ¬ c.a = t from hn 0 (by simp))]
    exact crF_none t cs (fun i hi => hn (i + 1) (by simpa using hi))
def crO (c : Ca) (t : ByteArray) : Int := if caB c = true then crF t c.cs else 0
theorem name_le {s : ByteArray} (h : NameR.nameB s = true) : 1 ≤ s.size ∧ s.size ≤ 20 := by
  rcases Nat.lt_or_ge s.size 1 with h1 | h1
  · rw [NameR.name_size (.inl h1)] at h; cases h
  · rcases Nat.lt_or_ge 20 s.size with h2 | h2
    · rw [NameR.name_size (.inr h2)] at h; cases h
    · exact ⟨h1, h2⟩
theorem caB_iff {c : Ca} : caB c = true ↔ MsRight c.ms ∧ CsRight c.cs := by
  unfold caB
  rw [Bool.and_eq_true, msB_iff, csB_iff]
theorem crO_long (c : Ca) (t : ByteArray) (ht : 20 < t.size) : crO c t = 0 := by
  unfold crO
  by_cases h : caB c = true
  · rw [if_pos h]
    refine crF_none t c.cs (fun i hi e => ?_)
    have := name_le (((caB_iff.1 h).2.2 i hi).1.1)
    rw [e] at this
    omega
  · rw [if_neg h]
theorem beq_no {a t : ByteArray} (h : a ≠ t) : (a.toList == t.toList) = false := by
  cases e : a.toList == t.toList
  · rfl
  · exact absurd (toList_inj (beq_iff_eq.1 e)) h
theorem nohit_more {cs : List Cr} {t : ByteArray} {k : Nat} (h : ∀ i, i < k → cA cs i ≠ t) (hk : cA cs k ≠ t) : ∀ i, i < k + 1 → cA cs i ≠ t := fun i hi => by
  by_cases e : i = k
  · subst e; exact hk
  · exact h i (by omega)
end CatR
end Go.Proofs.YtgaihlhoegaliaaDoor
namespace Go.Proofs.YtgaihlhoegaliaaDoor
open Go.RowKit
set_option linter.unusedVariables false
namespace CatR
open NumR (numB numB_size)
open JoinR (joinB jl)
def txB (t : ByteArray) : ByteArray := numB t.size ++ t
def fl (b : Bool) : Int := if b = true then 1 else 0
def tiP (t : Ti) : List ByteArray := [numB t.u, numB t.p]
def meH (m : Me) : List ByteArray := [txB m.n, numB m.g, numB (fl m.wh), numB m.f, numB m.l, numB m.ts.length]
def meP (m : Me) : List ByteArray := meH m ++ m.ts.flatMap tiP
def meBy (m : Me) : ByteArray := joinB (meP m)
def crP (x : Cr) : List ByteArray := [txB x.a, numB x.m]
def caP (c : Ca) : List ByteArray := (([numB c.ms.length] ++ c.ms.map meBy) ++ [numB c.cs.length]) ++ c.cs.flatMap crP
def caBy (c : Ca) : ByteArray := if caB c = true then joinB (caP c) else ⟨#[]⟩
theorem joinB_app (a b : List ByteArray) : joinB (a ++ b) = joinB a ++ joinB b := by
  apply ByteArray.ext
  simp [joinB]
theorem joinB_nil : joinB [] = ⟨#[]⟩ := rfl
theorem joinB_one (x : ByteArray) : joinB [x] = x := by
  apply ByteArray.ext
  simp [joinB]
theorem joinB_two (x y : ByteArray) : joinB [x, y] = x ++ y := by
  apply ByteArray.ext
  simp [joinB]
theorem jl_size (l : List ByteArray) : (jl l l.length).length = (joinB l).size := by
  rw [JoinR.jl_all]
  show _ = (List.toArray _).size
  rw [List.size_toArray]
theorem take_flat {α : Type} (l : List α) (f : α → List ByteArray) (d : α) (k : Nat) (h : k < l.length) : (l.take (k + 1)).flatMap f = (l.take k).flatMap f ++ f (l.getD k d) := by
  rw [List.take_add_one, List.getElem?_eq_getElem h, List.flatMap_append]
  simp [List.getD, h]
theorem take_map {α : Type} (l : List α) (f : α → ByteArray) (d : α) (k : Nat) (h : k < l.length) : (l.take (k + 1)).map f = (l.take k).map f ++ [f (l.getD k d)] := by
  rw [List.take_add_one, List.getElem?_eq_getElem h, List.map_append]
  simp [List.getD, h]
theorem join_size_le (K : Nat) : ∀ l : List ByteArray, (∀ x ∈ l, x.size ≤ K) → (joinB l).size ≤ l.length * K
  | [], _ => by show 0 ≤ _; exact Nat.zero_le _
  | x :: l, h => by
    have h1 := join_size_le K l (fun y hy => h y (List.mem_cons_of_mem _ hy))
    have h2 := h x (List.mem_cons_self ..)
    have e : joinB (x :: l) = x ++ joinB l := by
      have := joinB_app [x] l
      rw [joinB_one] at this
      exact this
    rw [e, ByteArray.size_append, List.length_cons, Nat.add_mul]
    omega
theorem num_le {n : Int} (h0 : 0 ≤ n) (h1 : n ≤ 1000000000000) : (numB n).size ≤ 40 := by
  have := numB_size (n := n) (by omega)
  omega
theorem txt_le {t : ByteArray} (h : t.size ≤ 20) : (txB t).size ≤ 40 := by
  unfold txB
  have := numB_size (n := (t.size : Int)) (by omega)
  rw [ByteArray.size_append]
  omega
theorem fl_bd (b : Bool) : 0 ≤ fl b ∧ fl b ≤ 1 := by cases b <;> decide
/-- What is known of a right meter, in numbers. -/
theorem mright_bd {m : Me} (h : MRight m) : (m.n.size ≤ 20 ∧ m.ts.length ≤ 5) ∧ (0 ≤ m.g ∧ m.g ≤ 4) ∧ (0 ≤ m.f ∧ m.f ≤ 1000000000) ∧ (0 ≤ m.l ∧ m.l ≤ 1000000000000) ∧ ∀ i, i < m.ts.length → (0 ≤ tU m.ts i ∧ tU m.ts i ≤ 1000000000000) ∧ 0 ≤ tP m.ts i ∧ tP m.ts i ≤ 1000000 := by
  obtain ⟨h1, h2, h3, h4, h5⟩ := h
  refine ⟨⟨(name_le h1).2, h5.2.1⟩, ⟨by omega, h2.2⟩, h3, h4, fun i hi => ?_⟩
  have a := h5.upto i hi
  have b := h5.2.2.1 i hi
  exact ⟨⟨by omega, a.2⟩, b.2⟩
theorem meH_size {m : Me} (h : MRight m) : ∀ x ∈ meH m, x.size ≤ 40 := by
  obtain ⟨⟨b0, b1⟩, b2, b3, b4, b5⟩ := mright_bd h
  have f := fl_bd m.wh
  intro x hx
  simp only [meH, List.mem_cons, List.not_mem_nil, or_false] at hx
  rcases hx with rfl | rfl | rfl | rfl | rfl | rfl
  · exact txt_le b0
  · exact num_le b2.1 (by omega)
  · exact num_le f.1 (by omega)
  · exact num_le b3.1 (by omega)
  · exact num_le b4.1 b4.2
  · exact num_le (by omega) (by omega)
theorem meT_size {m : Me} (h : MRight m) (k : Nat) : ∀ x ∈ (m.ts.take k).flatMap tiP, x.size ≤ 40 := by
  obtain ⟨_, _, _, _, b5⟩ := mright_bd h
  intro x hx
  rw [List.mem_flatMap] at hx
  obtain ⟨t, ht, hx⟩ := hx
  obtain ⟨i, hi, rfl⟩ := List.getElem_of_mem (List.mem_of_mem_take ht)
  have e : m.ts.getD i Ti.zero = m.ts[i] := by simp [List.getD, hi]
  obtain ⟨a, b⟩ := b5 i hi
  unfold tU at a
  unfold tP at b
  rw [e] at a b
  simp only [tiP, List.mem_cons, List.not_mem_nil, or_false] at hx
  rcases hx with rfl | rfl
  · exact num_le a.1 a.2
  · exact num_le b.1 (by omega)
theorem ti_len (l : List Ti) : (l.flatMap tiP).length = 2 * l.length := by
  induction l with
  | nil => rfl
  | cons t l ih => simp [tiP, ih]; omega
theorem cr_len (l : List Cr) : (l.flatMap crP).length = 2 * l.length := by
  induction l with
  | nil => rfl
  | cons t l ih => simp [crP, ih]; omega
theorem mePk_size {m : Me} (h : MRight m) (k : Nat) : (joinB (meH m ++ (m.ts.take k).flatMap tiP)).size ≤ 640 := by
  have h1 := join_size_le 40 (meH m ++ (m.ts.take k).flatMap tiP) (fun x hx => by
    rw [List.mem_append] at hx
    rcases hx with hx | hx
    · exact meH_size h x hx
    · exact meT_size h k x hx)
  rw [List.length_append, ti_len] at h1
  have h2 := (mright_bd h).1.2
  have h3 : (m.ts.take k).length ≤ 5 := by rw [List.length_take]; omega
  have h4 : (meH m).length = 6 := rfl
  rw [h4] at h1
  omega
theorem meBy_size {m : Me} (h : MRight m) : (meBy m).size ≤ 640 := by
  have := mePk_size h m.ts.length
  rw [List.take_of_length_le (Nat.le_refl _)] at this
  exact this
end CatR
end Go.Proofs.YtgaihlhoegaliaaDoor
namespace Go.Proofs.YtgaihlhoegaliaaDoor
open Go.ChangeShapes Go.WideShapes Go.ChangeAt Go.RowKit
set_option linter.unusedVariables false
namespace CatR
open EvtR (rT pT rN pN rC pC rC_le rT_size cut_size)
open NumR (numB)
open NumsR (I64)
open JoinR (joinB)
open SpR (Sp sp_nil sp_app sp_one sp_txt sp_num sp_cnt cut_whole rN_i64 pC_none Sq sq_app sq_cons sq_one sq_whole num_sq txt_sq cnt_sq)
/-- So many tiers read, and the place behind them. -/
def tisR (s : ByteArray) : Option Nat → Nat → List Ti × Option Nat
  | o, 0 => ([], o)
  | o, k + 1 => (⟨rN s o, rN s (pN s o)⟩ :: (tisR s (pN s (pN s o)) k).1, (tisR s (pN s (pN s o)) k).2)
theorem tisR_len (s : ByteArray) : ∀ (k : Nat) (o : Option Nat), (tisR s o k).1.length = k
  | 0, _ => rfl
  | k + 1, o => by simp [tisR, tisR_len s k]
theorem tisR_none (s : ByteArray) : ∀ k : Nat, (tisR s none k).2 = none
  | 0 => rfl
  | k + 1 => by
    show (tisR s (pN s (pN s none)) k).2 = none
    exact tisR_none s k
theorem tisR_snoc (s : ByteArray) : ∀ (k : Nat) (o : Option Nat), tisR s o (k + 1) = ((tisR s o k).1 ++ [⟨rN s (tisR s o k).2, rN s (pN s (tisR s o k).2)⟩], pN s (pN s (tisR s o k).2))
  | 0, _ => rfl
  | k + 1, o => by
    have h := tisR_snoc s k (pN s (pN s o))
    show ((⟨rN s o, rN s (pN s o)⟩ : Ti) :: (tisR s (pN s (pN s o)) (k + 1)).1, (tisR s (pN s (pN s o)) (k + 1)).2) = _
    rw [h]
    rfl
theorem sp_tis (s : ByteArray) : ∀ (k : Nat) (o : Option Nat) (q : Nat), (∀ p, o = some p → p ≤ s.size) → (tisR s o k).2 = some q → ∃ p, o = some p ∧ Sp s p q ((tisR s o k).1.flatMap tiP)
  | 0, o, q, hp, h => ⟨q, h, sp_nil (hp q h)⟩
  | k + 1, o, q, hp, h => by
    have h1 : (tisR s (pN s (pN s o)) k).2 = some q := h
    obtain ⟨r, e, h2⟩ := sp_tis s k (pN s (pN s o)) q (fun p e => by obtain ⟨_, _, h3, _⟩ := sp_num e; exact h3.2.1) h1
    obtain ⟨p1, e1, h3, _⟩ := sp_num e
    obtain ⟨p, e2, h4, _⟩ := sp_num e1
    refine ⟨p, e2, ?_⟩
    have := sp_app h4 (sp_app h3 h2)
    exact this
theorem tis_put (s : ByteArray) : ∀ (ts : List Ti) (p : Nat), (∀ t ∈ ts, I64 t.u ∧ I64 t.p) → Sq s p (ts.flatMap tiP) → tisR s (some p) ts.length = (ts, some (p + (joinB (ts.flatMap tiP)).size))
  | [], p, _, h => rfl
  | t :: ts, p, hb, h => by
    have h0 : Sq s p (numB t.u :: (numB t.p :: ts.flatMap tiP)) := h
    obtain ⟨h1, h2⟩ := sq_cons h0
    obtain ⟨h3, h4⟩ := sq_cons h2
    obtain ⟨b1, b2⟩ := hb t (List.mem_cons_self ..)
    obtain ⟨e1, e2⟩ := num_sq b1 h1
    obtain ⟨e3, e4⟩ := num_sq b2 h3
    have ih := tis_put s ts _ (fun t ht => hb t (List.mem_cons_of_mem _ ht)) h4
    show ((⟨rN s (some p), rN s (pN s (some p))⟩ : Ti) :: (tisR s (pN s (pN s (some p))) ts.length).1, (tisR s (pN s (pN s (some p))) ts.length).2) = _
    rw [e2, e4, ih, e1, e3]
    refine Prod.ext rfl ?_
    simp only [Option.some.injEq]
    have e : (t :: ts).flatMap tiP = [numB t.u] ++ ([numB t.p] ++ ts.flatMap tiP) := rfl
    rw [e, joinB_app, joinB_app, ByteArray.size_append, ByteArray.size_append, joinB_one, joinB_one]
    omega
/-- Is it read by the model (its flag any number), or by the program? -/
def mF (b : Bool) (s : ByteArray) (o : Option Nat) : Option Nat := bif b then pN s o else pC s o 1
def mW (b : Bool) (s : ByteArray) (o : Option Nat) : Bool := bif b then decide (rN s o = 1) else decide (rC s o 1 = 1)
def mO2 (s : ByteArray) (o : Option Nat) : Option Nat := pN s (pT s o)
def mO3 (b : Bool) (s : ByteArray) (o : Option Nat) : Option Nat := mF b s (mO2 s o)
def mO5 (b : Bool) (s : ByteArray) (o : Option Nat) : Option Nat := pN s (pN s (mO3 b s o))
def mC (b : Bool) (s : ByteArray) (o : Option Nat) : Nat := rC s (mO5 b s o) 5
def mO6 (b : Bool) (s : ByteArray) (o : Option Nat) : Option Nat := pC s (mO5 b s o) 5
def meR (b : Bool) (s : ByteArray) (o : Option Nat) : Me := ⟨rT s o, rN s (pT s o), mW b s (mO2 s o), rN s (mO3 b s o), rN s (pN s (mO3 b s o)), (tisR s (mO6 b s o) (mC b s o)).1⟩
def meQ (b : Bool) (s : ByteArray) (o : Option Nat) : Option Nat := (tisR s (mO6 b s o) (mC b s o)).2
theorem meR_len (b : Bool) (s : ByteArray) (o : Option Nat) : (meR b s o).ts.length = mC b s o := tisR_len s _ _
theorem meQ_none (b : Bool) (s : ByteArray) : meQ b s none = none := by
  have e3 : mO3 b s none = none := by
    unfold mO3 mF
    rw [show mO2 s none = none from rfl]
    cases b
    · exact pC_none s 1
    · rfl
  unfold meQ mO6
  rw [show mO5 b s none = none by unfold mO5; rw [e3]; rfl, pC_none]
  exact tisR_none s _
theorem sp_me {s : ByteArray} {o : Option Nat} {q : Nat} (h : meQ false s o = some q) : ∃ p, o = some p ∧ Sp s p q [meBy (meR false s o)] ∧ p < q := by
  obtain ⟨p7, e7, h7⟩ := sp_tis s _ _ q (fun p e => by obtain ⟨_, _, h3, _⟩ := sp_cnt e; exact h3.2.1) h
  obtain ⟨p6, e6, h6, _⟩ := sp_cnt e7
  obtain ⟨p5, e5, h5, _⟩ := sp_num e6
  obtain ⟨p4, e4, h4, _⟩ := sp_num e5
  have e4' : pC s (mO2 s o) 1 = some p4 := e4
  obtain ⟨p3, e3, h3, _⟩ := sp_cnt e4'
  obtain ⟨p2, e2, h2, _⟩ := sp_num e3
  obtain ⟨p1, e1, h1, l1⟩ := sp_txt e2
  have hh := sp_app h1 (sp_app h2 (sp_app h3 (sp_app h4 (sp_app h5 (sp_app h6 h7)))))
  have a2 := h2.1
  have a3 := h3.1
  have a4 := h4.1
  have a5 := h5.1
  have a6 := h6.1
  have a7 := h7.1
  refine ⟨p1, e1, ?_, by omega⟩
  have efl : ((rC s (mO2 s o) 1 : Nat) : Int) = fl (mW false s (mO2 s o)) := by
    have := rC_le s (mO2 s o) 1
    unfold mW fl
    simp only [cond_false, decide_eq_true_eq]
    split <;> omega
  rw [efl] at hh
  have e : meBy (meR false s o) = joinB ([SpR.txB (rT s o)] ++ ([numB (rN s (pT s o))] ++ ([numB (fl (mW false s (mO2 s o)))] ++ ([numB (rN s (mO3 false s o))] ++ ([numB (rN s (pN s (mO3 false s o)))] ++ ([numB (mC false s o)] ++ (tisR s (mO6 false s o) (mC false s o)).1.flatMap tiP)))))) := by
    unfold meBy meP meH
    rw [meR_len]
    rfl
  rw [e]
  exact sp_one hh
theorem mright_i64 {m : Me} (h : MRight m) : m.n.size ≤ 20 ∧ m.ts.length ≤ 5 ∧ I64 m.g ∧ I64 m.f ∧ I64 m.l ∧ ∀ t ∈ m.ts, I64 t.u ∧ I64 t.p := by
  obtain ⟨⟨b0, b1⟩, b2, b3, b4, b5⟩ := mright_bd h
  refine ⟨b0, b1, ⟨by omega, by omega⟩, ⟨by omega, by omega⟩, ⟨by omega, by omega⟩, fun t ht => ?_⟩
  obtain ⟨i, hi, rfl⟩ := List.getElem_of_mem ht
  have e : m.ts.getD i Ti.zero = m.ts[i] := by simp [List.getD, hi]
  have h5 := b5 i hi
  unfold tU tP at h5
  rw [e] at h5
  exact ⟨⟨by omega, by omega⟩, ⟨by omega, by omega⟩⟩
theorem me_put (b : Bool) {s : ByteArray} {p : Nat} {m : Me} (hm : MRight m) (h : Sq s p [meBy m]) : meR b s (some p) = m ∧ meQ b s (some p) = some (p + (meBy m).size) := by
  have h0 : Sq s p (SpR.txB m.n :: (numB m.g :: (numB (fl m.wh) :: (numB m.f :: (numB m.l :: (numB (m.ts.length : Int) :: m.ts.flatMap tiP)))))) := sq_one h
  obtain ⟨k0, k1, k2, k3, k4, k5⟩ := mright_i64 hm
  obtain ⟨h1, h2⟩ := sq_cons h0
  obtain ⟨h3, h4⟩ := sq_cons h2
  obtain ⟨h5, h6⟩ := sq_cons h4
  obtain ⟨h7, h8⟩ := sq_cons h6
  obtain ⟨h9, h10⟩ := sq_cons h8
  obtain ⟨h11, h12⟩ := sq_cons h10
  obtain ⟨e1, e2⟩ := txt_sq (by omega) h1
  obtain ⟨e3, e4⟩ := num_sq k2 h3
  have hfl : fl m.wh = ((if m.wh = true then 1 else 0 : Nat) : Int) := by unfold fl; split <;> rfl
  have efl := fl_bd m.wh
  obtain ⟨e5, e6⟩ := num_sq (n := fl m.wh) ⟨by omega, by omega⟩ h5
  have e56 : mF b s (some (p + (SpR.txB m.n).size + (numB m.g).size)) = some (p + (SpR.txB m.n).size + (numB m.g).size + (numB (fl m.wh)).size) ∧ mW b s (some (p + (SpR.txB m.n).size + (numB m.g).size)) = m.wh := by
    cases b
    · have h5' := h5
      rw [hfl] at h5'
      obtain ⟨c1, c2⟩ := cnt_sq (M := 1) (by split <;> omega) (by omega) h5'
      unfold mF mW
      simp only [cond_false]
      rw [c1, c2, ← hfl]
      refine ⟨rfl, ?_⟩
      cases m.wh <;> rfl
    · unfold mF mW
      simp only [cond_true]
      rw [e5, e6]
      refine ⟨rfl, ?_⟩
      cases m.wh <;> rfl
  obtain ⟨e7, e8⟩ := num_sq k3 h7
  obtain ⟨e9, e10⟩ := num_sq k4 h9
  obtain ⟨e11, e12⟩ := cnt_sq (M := 5) k1 (by omega) h11
  have e13 := tis_put s m.ts _ k5 h12
  have o2 : mO2 s (some p) = some (p + (SpR.txB m.n).size + (numB m.g).size) := by unfold mO2; rw [e2, e4]
  have o3 : mO3 b s (some p) = some (p + (SpR.txB m.n).size + (numB m.g).size + (numB (fl m.wh)).size) := by unfold mO3; rw [o2, e56.1]
  have o5 : mO5 b s (some p) = some (p + (SpR.txB m.n).size + (numB m.g).size + (numB (fl m.wh)).size + (numB m.f).size + (numB m.l).size) := by unfold mO5; rw [o3, e8, e10]
  have o6 : mO6 b s (some p) = some (p + (SpR.txB m.n).size + (numB m.g).size + (numB (fl m.wh)).size + (numB m.f).size + (numB m.l).size + (numB (m.ts.length : Int)).size) := by unfold mO6; rw [o5, e12]
  have oc : mC b s (some p) = m.ts.length := by unfold mC; rw [o5, e11]
  constructor
  · unfold meR
    rw [o2, o3, o6, oc, e13, e56.2, e1, e2, e3, e7, e8, e9]
  · unfold meQ
    rw [o6, oc, e13]
    simp only [Option.some.injEq]
    have e : meBy m = joinB ([SpR.txB m.n] ++ ([numB m.g] ++ ([numB (fl m.wh)] ++ ([numB m.f] ++ ([numB m.l] ++ ([numB (m.ts.length : Int)] ++ m.ts.flatMap tiP)))))) := rfl
    rw [e]
    simp only [joinB_app, ByteArray.size_append, joinB_one]
    omega
/-- So many meters, credits, read, and the place behind them. -/
def mesR (b : Bool) (s : ByteArray) : Option Nat → Nat → List Me × Option Nat
  | o, 0 => ([], o)
  | o, k + 1 => (meR b s o :: (mesR b s (meQ b s o) k).1, (mesR b s (meQ b s o) k).2)
def crsR (s : ByteArray) : Option Nat → Nat → List Cr × Option Nat
  | o, 0 => ([], o)
  | o, k + 1 => (⟨rT s o, rN s (pT s o)⟩ :: (crsR s (pN s (pT s o)) k).1, (crsR s (pN s (pT s o)) k).2)
theorem mesR_len (b : Bool) (s : ByteArray) : ∀ (k : Nat) (o : Option Nat), (mesR b s o k).1.length = k
  | 0, _ => rfl
  | k + 1, o => by simp [mesR, mesR_len b s k]
theorem crsR_len (s : ByteArray) : ∀ (k : Nat) (o : Option Nat), (crsR s o k).1.length = k
  | 0, _ => rfl
  | k + 1, o => by simp [crsR, crsR_len s k]
theorem mesR_snoc (b : Bool) (s : ByteArray) : ∀ (k : Nat) (o : Option Nat), mesR b s o (k + 1) = ((mesR b s o k).1 ++ [meR b s (mesR b s o k).2], meQ b s (mesR b s o k).2)
  | 0, _ => rfl
  | k + 1, o => by
    have h := mesR_snoc b s k (meQ b s o)
    show (meR b s o :: (mesR b s (meQ b s o) (k + 1)).1, (mesR b s (meQ b s o) (k + 1)).2) = _
    rw [h]
    rfl
theorem crsR_snoc (s : ByteArray) : ∀ (k : Nat) (o : Option Nat), crsR s o (k + 1) = ((crsR s o k).1 ++ [⟨rT s (crsR s o k).2, rN s (pT s (crsR s o k).2)⟩], pN s (pT s (crsR s o k).2))
  | 0, _ => rfl
  | k + 1, o => by
    have h := crsR_snoc s k (pN s (pT s o))
    show ((⟨rT s o, rN s (pT s o)⟩ : Cr) :: (crsR s (pN s (pT s o)) (k + 1)).1, (crsR s (pN s (pT s o)) (k + 1)).2) = _
    rw [h]
    rfl
theorem crsR_none (s : ByteArray) : ∀ k : Nat, (crsR s none k).2 = none
  | 0 => rfl
  | k + 1 => by
    show (crsR s (pN s (pT s none)) k).2 = none
    exact crsR_none s k
theorem sp_mes (s : ByteArray) : ∀ (k : Nat) (o : Option Nat) (q : Nat), (∀ p, o = some p → p ≤ s.size) → (mesR false s o k).2 = some q → ∃ p, o = some p ∧ Sp s p q ((mesR false s o k).1.map meBy)
  | 0, o, q, hp, h => ⟨q, h, sp_nil (hp q h)⟩
  | k + 1, o, q, hp, h => by
    have h1 : (mesR false s (meQ false s o) k).2 = some q := h
    obtain ⟨r, e, h2⟩ := sp_mes s k (meQ false s o) q (fun p e => by obtain ⟨_, _, h3, _⟩ := sp_me e; exact h3.2.1) h1
    obtain ⟨p, e2, h3, _⟩ := sp_me e
    exact ⟨p, e2, sp_app h3 h2⟩
theorem sp_crs (s : ByteArray) : ∀ (k : Nat) (o : Option Nat) (q : Nat), (∀ p, o = some p → p ≤ s.size) → (crsR s o k).2 = some q → ∃ p, o = some p ∧ Sp s p q ((crsR s o k).1.flatMap crP)
  | 0, o, q, hp, h => ⟨q, h, sp_nil (hp q h)⟩
  | k + 1, o, q, hp, h => by
    have h1 : (crsR s (pN s (pT s o)) k).2 = some q := h
    obtain ⟨r, e, h2⟩ := sp_crs s k (pN s (pT s o)) q (fun p e => by obtain ⟨_, _, h3, _⟩ := sp_num e; exact h3.2.1) h1
    obtain ⟨p1, e1, h3, _⟩ := sp_num e
    obtain ⟨p, e2, h4, _⟩ := sp_txt e1
    refine ⟨p, e2, ?_⟩
    have := sp_app h4 (sp_app h3 h2)
    exact this
theorem mes_put (b : Bool) (s : ByteArray) : ∀ (ms : List Me) (p : Nat), (∀ m ∈ ms, MRight m) → Sq s p (ms.map meBy) → mesR b s (some p) ms.length = (ms, some (p + (joinB (ms.map meBy)).size))
  | [], p, _, h => rfl
  | m :: ms, p, hb, h => by
    obtain ⟨h1, h2⟩ := sq_cons (x := meBy m) (L := ms.map meBy) h
    obtain ⟨e1, e2⟩ := me_put b (hb m (List.mem_cons_self ..)) h1
    have ih := mes_put b s ms _ (fun t ht => hb t (List.mem_cons_of_mem _ ht)) h2
    show (meR b s (some p) :: (mesR b s (meQ b s (some p)) ms.length).1, (mesR b s (meQ b s (some p)) ms.length).2) = _
    rw [e2, ih, e1]
    refine Prod.ext rfl ?_
    simp only [Option.some.injEq]
    have e : (m :: ms).map meBy = [meBy m] ++ ms.map meBy := rfl
    rw [e, joinB_app, ByteArray.size_append, joinB_one]
    omega
theorem crs_put (s : ByteArray) : ∀ (cs : List Cr) (p : Nat), (∀ c ∈ cs, c.a.size ≤ 8000 ∧ I64 c.m) → Sq s p (cs.flatMap crP) → crsR s (some p) cs.length = (cs, some (p + (joinB (cs.flatMap crP)).size))
  | [], p, _, h => rfl
  | c :: cs, p, hb, h => by
    have h0 : Sq s p (SpR.txB c.a :: (numB c.m :: cs.flatMap crP)) := h
    obtain ⟨h1, h2⟩ := sq_cons h0
    obtain ⟨h3, h4⟩ := sq_cons h2
    obtain ⟨b1, b2⟩ := hb c (List.mem_cons_self ..)
    obtain ⟨e1, e2⟩ := txt_sq b1 h1
    obtain ⟨e3, e4⟩ := num_sq b2 h3
    have ih := crs_put s cs _ (fun t ht => hb t (List.mem_cons_of_mem _ ht)) h4
    show ((⟨rT s (some p), rN s (pT s (some p))⟩ : Cr) :: (crsR s (pN s (pT s (some p))) cs.length).1, (crsR s (pN s (pT s (some p))) cs.length).2) = _
    rw [e2, e4, ih, e1, e3]
    refine Prod.ext rfl ?_
    simp only [Option.some.injEq]
    have e : (c :: cs).flatMap crP = [SpR.txB c.a] ++ ([numB c.m] ++ cs.flatMap crP) := rfl
    rw [e, joinB_app, joinB_app, ByteArray.size_append, ByteArray.size_append, joinB_one, joinB_one]
    omega
def cN0 (s : ByteArray) : Nat := rC s (some 0) 6
def cO0 (s : ByteArray) : Option Nat := pC s (some 0) 6
def cOM (b : Bool) (s : ByteArray) : Option Nat := (mesR b s (cO0 s) (cN0 s)).2
def cN1 (b : Bool) (s : ByteArray) : Nat := rC s (cOM b s) 6
def cO1 (b : Bool) (s : ByteArray) : Option Nat := pC s (cOM b s) 6
/-- The catalog that is read, and the place behind it. -/
def caR' (b : Bool) (s : ByteArray) : Ca := ⟨(mesR b s (cO0 s) (cN0 s)).1, (crsR s (cO1 b s) (cN1 b s)).1⟩
def cOE (b : Bool) (s : ByteArray) : Option Nat := (crsR s (cO1 b s) (cN1 b s)).2
theorem ca_back {s : ByteArray} {q : Nat} (h : cOE false s = some q) : q ≤ s.size ∧ 0 < q ∧ s.extract 0 q = joinB (caP (caR' false s)) := by
  obtain ⟨p3, e3, h3⟩ := sp_crs s _ _ q (fun p e => by obtain ⟨_, _, h3, _⟩ := sp_cnt e; exact h3.2.1) h
  obtain ⟨p2, e2, h2, _⟩ := sp_cnt e3
  obtain ⟨p1, e1, h1⟩ := sp_mes s _ _ p2 (fun p e => by obtain ⟨_, _, h3, _⟩ := sp_cnt e; exact h3.2.1) e2
  obtain ⟨p0, e0, h0, l0⟩ := sp_cnt e1
  cases e0
  have hh := sp_app (sp_app (sp_app h0 h1) h2) h3
  have a1 := h1.1
  have a2 := h2.1
  have a3 := h3.1
  refine ⟨hh.2.1, by omega, ?_⟩
  rw [hh.2.2]
  have n1 : (caR' false s).ms.length = cN0 s := mesR_len false s _ _
  have n2 : (caR' false s).cs.length = cN1 false s := crsR_len s _ _
  unfold caP
  rw [n1, n2]
  rfl
theorem ca_put (b : Bool) {s : ByteArray} {c : Ca} (hc : caB c = true) (hs : s = joinB (caP c)) : caR' b s = c ∧ cOE b s = some s.size := by
  obtain ⟨⟨m6, hm⟩, ⟨c6, hcr⟩⟩ := caB_iff.1 hc
  have hm2 : ∀ m ∈ c.ms, MRight m := fun m hmm => by
    obtain ⟨i, hi, rfl⟩ := List.getElem_of_mem hmm
    have e : c.ms.getD i Me.zero = c.ms[i] := by simp [List.getD, hi]
    have := (hm i hi).1
    rw [e] at this
    exact this
  have hc2 : ∀ x ∈ c.cs, x.a.size ≤ 8000 ∧ I64 x.m := fun x hx => by
    obtain ⟨i, hi, rfl⟩ := List.getElem_of_mem hx
    have e : c.cs.getD i Cr.zero = c.cs[i] := by simp [List.getD, hi]
    obtain ⟨⟨u1, u2, u3⟩, _⟩ := hcr i hi
    have u4 := (name_le u1).2
    unfold cA at u4
    unfold cM at u2 u3
    rw [e] at u4 u2 u3
    exact ⟨by omega, ⟨by omega, by omega⟩⟩
  have h0 : Sq s 0 ((([numB (c.ms.length : Int)] ++ c.ms.map meBy) ++ [numB (c.cs.length : Int)]) ++ c.cs.flatMap crP) := by
    rw [hs]
    exact sq_whole _
  obtain ⟨h1, h2⟩ := sq_app h0
  obtain ⟨h3, h4⟩ := sq_app h1
  obtain ⟨h5, h6⟩ := sq_app h3
  rw [joinB_one, Nat.zero_add] at h6
  obtain ⟨e1, e2⟩ := cnt_sq (M := 6) m6 (by omega) h5
  rw [Nat.zero_add] at e2
  have e3 := mes_put b s c.ms _ hm2 h6
  have sz : ∀ L : List ByteArray, (joinB ([numB (c.ms.length : Int)] ++ L)).size = (numB (c.ms.length : Int)).size + (joinB L).size := fun L => by rw [joinB_app, ByteArray.size_append, joinB_one]
  rw [sz, Nat.zero_add] at h4
  obtain ⟨e4, e5⟩ := cnt_sq (M := 6) c6 (by omega) h4
  rw [joinB_app ([numB (c.ms.length : Int)] ++ c.ms.map meBy), ByteArray.size_append, sz, joinB_one, Nat.zero_add] at h2
  have e6 := crs_put s c.cs _ hc2 h2
  have o0 : cO0 s = some (numB (c.ms.length : Int)).size := e2
  have n0 : cN0 s = c.ms.length := e1
  have oM : cOM b s = some ((numB (c.ms.length : Int)).size + (joinB (c.ms.map meBy)).size) := by unfold cOM; rw [o0, n0, e3]
  have n1 : cN1 b s = c.cs.length := by unfold cN1; rw [oM, e4]
  have o1 : cO1 b s = some ((numB (c.ms.length : Int)).size + (joinB (c.ms.map meBy)).size + (numB (c.cs.length : Int)).size) := by unfold cO1; rw [oM, e5]
  constructor
  · unfold caR'
    rw [o0, n0, e3, o1, n1, e6]
  · unfold cOE
    rw [o1, n1, e6]
    simp only [Option.some.injEq]
    have hz := congrArg ByteArray.size hs
    unfold caP at hz
    rw [joinB_app, joinB_app ([numB (c.ms.length : Int)] ++ c.ms.map meBy), joinB_app [numB (c.ms.length : Int)], joinB_one, joinB_one] at hz
    simp only [ByteArray.size_append] at hz
    omega
/-- What the model asks of what it reads is what the program asks of what it reads, and then both read one catalog. -/
theorem ca_same (s : ByteArray) : (cOE true s ≠ none ∧ s.size ≠ 0 ∧ caBy (caR' true s) = s) ↔ (cOE false s = some s.size ∧ caB (caR' false s) = true) := by
  constructor
  · rintro ⟨h1, h2, h3⟩
    unfold caBy at h3
    split at h3
    · rename_i hc
      obtain ⟨e1, e2⟩ := ca_put false hc h3.symm
      exact ⟨e2, by rw [e1]; exact hc⟩
    · rw [← h3] at h2
      exact absurd rfl h2
  · rintro ⟨h1, h2⟩
    obtain ⟨b1, b2, b3⟩ := ca_back h1
    rw [cut_whole] at b3
    obtain ⟨e1, e2⟩ := ca_put true h2 b3
    refine ⟨by rw [e2]; simp, by omega, ?_⟩
    unfold caBy
    rw [e1, if_pos h2, ← b3]
theorem ca_one {s : ByteArray} (h : cOE false s = some s.size ∧ caB (caR' false s) = true) : caR' true s = caR' false s := by
  obtain ⟨b1, b2, b3⟩ := ca_back h.1
  rw [cut_whole] at b3
  exact (ca_put true h.2 b3).1
end CatR
end Go.Proofs.YtgaihlhoegaliaaDoor
namespace Go.Proofs.YtgaihlhoegaliaaDoor
open Go.ChangeShapes Go.WideShapes Go.ChangeAt Go.RowKit
set_option linter.unusedVariables false
namespace CatR
open OwG
open RowG (MadeG Rws cellsAll hid_intro)
open EvtR (Pt After SAfter Reads gtrans)
open DocR (BlkW)
open MemoR
set_option maxRecDepth 100000 in
set_option maxHeartbeats 16000000 in
theorem icat_in (g : Nat) (s : ByteArray) (o0 : Option Nat) (C D : Nat) (PM PC : Nat → Option Nat) (LM : Nat → List Me) (LC : Nat → List Cr) (mm : Nat → Me) (hh : Nat → ByteArray) (ss : Nat → Int) (w : World) (hA : After g s o0 w)
    (rc1 : ∀ w, After g s o0 w → Calls Tryd.prog 25 #[.pointer (some ⟨g, 0, none⟩), .int .i64 6] w fun e w' => e = .returned (.int .i64 (C : Nat)) ∧ After g s (PM 0) w' ∧ w.grownBy w' (some g))
    (rm : ∀ k w, After g s (PM k) w → Calls Tryd.prog 26 #[.pointer (some ⟨g, 0, none⟩)] w fun e w' => ∃ ta tc, e = .returned (.agg #[.string (mm k).n, .int .i64 (mm k).g, .bool (mm k).wh, .int .i64 (mm k).f, .int .i64 (mm k).l, .slice ta (mm k).ts.length tc]) ∧ w'.ownsRow w.heap.size 57 2 (.slice ta (mm k).ts.length tc) (mm k).ts.length (cellsAll Ti.cells (mm k).ts) ∧ After g s (PM (k + 1)) w' ∧ w.grownBy w' (some g))
    (rc2 : ∀ w, After g s (PM C) w → Calls Tryd.prog 25 #[.pointer (some ⟨g, 0, none⟩), .int .i64 6] w fun e w' => e = .returned (.int .i64 (D : Nat)) ∧ After g s (PC 0) w' ∧ w.grownBy w' (some g))
    (rh : ∀ k, ∃ om, Reads 27 g s (PC k) om (.string (hh k)) ∧ Reads 28 g s om (PC (k + 1)) (.int .i64 (ss k)))
    (hC : C ≤ 6) (hD : D ≤ 6) (hM0 : LM 0 = []) (hMM : ∀ k, LM (k + 1) = LM k ++ [mm k]) (hML : ∀ k, (LM k).length = k) (hC0 : LC 0 = []) (hCM : ∀ k, LC (k + 1) = LC k ++ [⟨hh k, ss k⟩]) :
    Calls Tryd.prog 14 #[.pointer (some ⟨g, 0, none⟩)] w fun e w' => ∃ ma mc ca cc, e = .returned (.agg #[.slice ma C mc, .slice ca D cc]) ∧ MsO w.heap.size (.slice ma C mc) (LM C) w' ∧ w'.ownsRow w.heap.size 42 2 (.slice ca D cc) D (cellsAll Cr.cells (LC D)) ∧ After g s (PC D) w' ∧ w.grownBy w' (some g) := by
  obtain ⟨i0, hi, hz0, hz1, hz2⟩ := info_parts infoMe
  obtain ⟨j0, gi, gz0, gz1, gz2⟩ := info_parts infoCr
  have RC1 := hid_intro rc1
  have RM := hid_intro rm
  have RC2 := hid_intro rc2
  have RH := hid_intro rh
  have HM0 := hid_intro hM0
  have HMM := hid_intro hMM
  have HML := hid_intro hML
  have HC0 := hid_intro hC0
  have HCM := hid_intro hCM
  have hgw : g < w.heap.size := hA.lt
  obtain ⟨W0, hW0⟩ : ∃ W0, W0 = (w.alloc (.cells #[.slice none 0 0, .slice none 0 0] 25)).alloc (.cells #[.slice none 0 0, .slice none 0 0] 25) := ⟨_, rfl⟩
  have HA : Hid (After g s o0 W0) := hid_intro (by rw [hW0]; exact (hA.alloc _).alloc _)
  have HG : Hid (w.grownBy W0 (some g)) := hid_intro (by rw [hW0]; exact galloc (World.grownBy_alloc w _ _) _)
  have HR : Hid (BlkW w.heap.size [.slice none 0 0, .slice none 0 0] W0) := hid_intro (by rw [hW0]; exact (BlkW.new w [.slice none 0 0, .slice none 0 0] 25).below ((Below.refl _ _).alloc (Nat.le_refl _) _))
  have HV : Hid (BlkW (w.heap.size + 1) [.slice none 0 0, .slice none 0 0] W0) := hid_intro (by
    rw [hW0]
    obtain ⟨X, hX⟩ : ∃ X, X = w.alloc (.cells #[.slice none 0 0, .slice none 0 0] 25) := ⟨_, rfl⟩
    have e : X.heap.size = w.heap.size + 1 := by rw [hX]; simp
    rw [← hX, ← e]
    exact BlkW.new X [.slice none 0 0, .slice none 0 0] 25)
  obtain ⟨bV, hbV⟩ : ∃ z, z = w.heap.size + 1 := ⟨_, rfl⟩
  rw [← hbV] at HV
  have hlo : w.heap.size < bV := by omega
  have HW := hid_intro hW0
  have HBV := hid_intro hbV
  clear rc1 rm rc2 rh hM0 hMM hML hC0 hCM hA hW0 hbV
  have gsz3 : 0 < 2 := by omega
  have gsz6 : 0 < 6 := by omega
  go_enter Tryd.func14, Tryd.ntmps14
  go_wp2_with fail
  rw [← HW.out, ← HBV.out]
  clear HW HBV
  refine (RC1.out _ HA.out).mono ?_
  rintro e wB ⟨rfl, hA, hq⟩
  replace HA := hid_intro hA
  replace HG := hid_intro (gtrans HG.out hq)
  replace HR := hid_intro (blkW_grown HR.out hq (by simp; omega))
  replace HV := hid_intro (blkW_grown HV.out hq (by simp; omega))
  clear hA hq
  go_wp2_with fail
  go_loopw [6] (fun z wr => ∃ (k : Nat) (ma : Option Addr) (mc : Nat), k ≤ C ∧ z = .int .i64 k ∧ Hid (After g s (PM k) wr) ∧ Hid (w.grownBy wr (some g)) ∧ Hid (BlkW w.heap.size [.slice none 0 0, .slice none 0 0] wr) ∧ Hid (BlkW bV [.slice ma k mc, .slice none 0 0] wr) ∧ Hid (MsO (bV + 1) (.slice ma k mc) (LM k) wr)) (fun z _ => C - (intOf z).toNat)
  case atStart => exact ⟨0, none, 0, by omega, rfl, HA, HG, HR, HV, hid_intro (by rw [HM0.out]; exact mso_nil _ _)⟩
  case round =>
    clear HA HG HR HV
    obtain ⟨k, ma, mc, hk, rfl, HA, HG, HR, HV, HM⟩ := hrel
    by_cases hlt : k < C
    · have hlt2 : (k : Int) < (C : Int) := by omega
      have RMk := hid_intro (RM.out k)
      have HLM := hid_intro (HMM.out k)
      have HLL := hid_intro (HML.out k)
      have HME := hid_intro (me_one (mm k))
      have sz1 : k + 1 ≤ maxLen := by unfold maxLen; omega
      have sz2 : (k + 1) * 72 ≤ 140737488355328 := by omega
      obtain ⟨L0, hL0⟩ : ∃ z, z = wr.heap.size := ⟨_, rfl⟩
      have hbl : bV + 1 ≤ L0 := by have := HV.out.1.1; omega
      have hM0 := HM.out.lim.below (Below.refl wr.heap.size wr).drew
      have hL1 : L0 ≤ wr.drew.heap.size := by rw [hL0]; exact Nat.le_refl _
      rw [← hL0] at hM0
      have hA0 := EvtR.After.below HA.out (Below.refl wr.heap.size wr).drew
      have hG0 := gtrans HG.out (EvtR.rgrown (Below.refl wr.heap.size wr).drew _)
      have hR0 := HR.out.below (Below.refl wr.heap.size wr).drew
      have hV0 := HV.out.below (Below.refl wr.heap.size wr).drew
      have hbg : g < bV := by omega
      go_wp2_with fail
      refine wp_region_held_drew (S := (fun _ => True)) (by kernel_rfl) trivial (fun hHeld => ?_)
      generalize wr.drew = kd at *
      refine wpAnyH_take (i := 0) (oi := { dst := some 8, op := Op.fieldAddr 25 (Operand.tmp 3) 0, type := 0, pos := "l05_catalog.go:184", after := #[], guard := none }) (v := ?_) rfl (by kernel_rfl) (by kernel_rfl) (by kernel_rfl) (fun _ _ _ h => h) (Or.inl ⟨by rfl, ?_⟩) (by assumption) ?_
      rotate_left
      · (intro w hSw; (try dsimp only at hSw); go_simp) <;> with_reducible rfl
      try simp only [Act.put, List.setIfInBounds_toArray, List.set_cons_zero, List.set_cons_succ]
      refine wpAnyH_take (i := 2) (oi := { dst := some 10, op := Op.move (Operand.tmp 0), type := 45, pos := "l05_catalog.go:184", after := #[], guard := none }) (v := ?_) rfl (by kernel_rfl) (by kernel_rfl) (by kernel_rfl) (fun _ _ _ h => h) (Or.inl ⟨by rfl, ?_⟩) (by assumption) ?_
      rotate_left
      · (intro w hSw; (try dsimp only at hSw); go_simp) <;> with_reducible rfl
      try simp only [Act.put, List.setIfInBounds_toArray, List.set_cons_zero, List.set_cons_succ]
      refine wpAnyH_ready (rs := [1, 3]) (by kernel_rfl) (by simp) ?_
      refine AllReadyH.cons (o := { dst := some 9, op := Op.load 22 (Operand.tmp 8), type := 22, pos := "l05_catalog.go:184", after := #[{ on := 0, ground := Ground.data }], guard := none }) rfl (fun K hK => ?_) (AllReadyH.cons (o := { dst := some 11, op := Op.call { callee := Callee.value (Operand.func 26), args := #[Operand.tmp 10], argTypes := #[45] }, type := 38, pos := "l05_catalog.go:184", after := #[{ on := 2, ground := Ground.data }], guard := none }) rfl (fun K hK => ?_) AllReadyH.nil)
      · have c6 := hV0.1.2 0 (by simp)
        have l6 := hV0.1.1
        simp only [List.getElem?_cons_zero] at c6
        go_simp
        try go_wp2_with fail
        refine hK.out _ _ trivial (fun _ => ?_)
        clear hK K
        try simp only [Act.put, List.setIfInBounds_toArray, List.set_cons_zero, List.set_cons_succ]
        clear c6 l6
        refine wpAnyH_ready (rs := [3]) (by kernel_rfl) (by simp) ?_
        refine AllReadyH.cons (o := { dst := some 11, op := Op.call { callee := Callee.value (Operand.func 26), args := #[Operand.tmp 10], argTypes := #[45] }, type := 38, pos := "l05_catalog.go:184", after := #[{ on := 2, ground := Ground.data }], guard := none }) rfl (fun K hK => ?_) AllReadyH.nil
        go_simp
        go_at_call 26
        refine (RMk.out _ hA0).mono ?_
        rintro e q1 ⟨ta, tc, rfl, hNz, hA1, hq1⟩
        try go_wp2_with fail
        have hG1 := gtrans hG0 hq1
        have hR1 := blkW_grown hR0 hq1 (by simp; omega)
        have hV1 := blkW_grown hV0 hq1 (by simp; omega)
        have hM1 := hM0.far hq1 (by omega)
        have hN1 := own_low hNz hL1
        clear hNz
        refine hK.out _ _ trivial (fun _ => ?_)
        clear hK K
        try simp only [Act.put, List.setIfInBounds_toArray, List.set_cons_zero, List.set_cons_succ]
        refine wpAnyH_ready (rs := [4]) (by kernel_rfl) (by simp) ?_
        refine AllReadyH.cons (o := { dst := some 12, op := Op.buildSlice 22 1 #[(0, Operand.tmp 11)], type := 22, pos := "l05_catalog.go:184", after := #[{ on := 3, ground := Ground.data }], guard := none }) rfl (fun K hK => ?_) AllReadyH.nil
        go_simp
        try go_wp2_with fail
        have hA2 := hA1.alloc (Obj.cells #[.string (mm k).n, .int .i64 (mm k).g, .bool (mm k).wh, .int .i64 (mm k).f, .int .i64 (mm k).l, .slice ta (mm k).ts.length tc] 38)
        have hG2 := galloc hG1 (Obj.cells #[.string (mm k).n, .int .i64 (mm k).g, .bool (mm k).wh, .int .i64 (mm k).f, .int .i64 (mm k).l, .slice ta (mm k).ts.length tc] 38)
        have hR2 := hR1.below ((Below.refl q1.heap.size q1).alloc (Nat.le_refl _) (Obj.cells #[.string (mm k).n, .int .i64 (mm k).g, .bool (mm k).wh, .int .i64 (mm k).f, .int .i64 (mm k).l, .slice ta (mm k).ts.length tc] 38))
        have hV2 := hV1.below ((Below.refl q1.heap.size q1).alloc (Nat.le_refl _) (Obj.cells #[.string (mm k).n, .int .i64 (mm k).g, .bool (mm k).wh, .int .i64 (mm k).f, .int .i64 (mm k).l, .slice ta (mm k).ts.length tc] 38))
        have hM2 := hM1.below ((Below.refl q1.heap.size q1).alloc (Nat.le_refl _) (Obj.cells #[.string (mm k).n, .int .i64 (mm k).g, .bool (mm k).wh, .int .i64 (mm k).f, .int .i64 (mm k).l, .slice ta (mm k).ts.length tc] 38))
        have hN2 := RowG.own_below hN1 ((Below.refl q1.heap.size q1).alloc (Nat.le_refl _) (Obj.cells #[.string (mm k).n, .int .i64 (mm k).g, .bool (mm k).wh, .int .i64 (mm k).f, .int .i64 (mm k).l, .slice ta (mm k).ts.length tc] 38))
        have hnw : ∀ j u, ([.string (mm k).n, .int .i64 (mm k).g, .bool (mm k).wh, .int .i64 (mm k).f, .int .i64 (mm k).l, .slice ta (mm k).ts.length tc] : List Value)[j]? = some u → (q1.alloc (Obj.cells #[.string (mm k).n, .int .i64 (mm k).g, .bool (mm k).wh, .int .i64 (mm k).f, .int .i64 (mm k).l, .slice ta (mm k).ts.length tc] 38)).cell? ((⟨q1.heap.size, 0, none⟩ : Addr).add j) = some u := new_cells q1 [.string (mm k).n, .int .i64 (mm k).g, .bool (mm k).wh, .int .i64 (mm k).f, .int .i64 (mm k).l, .slice ta (mm k).ts.length tc] 38
        refine hK.out _ _ trivial (fun _ => ?_)
        clear hK K
        try simp only [Act.put, List.setIfInBounds_toArray, List.set_cons_zero, List.set_cons_succ]
        obtain ⟨bN, hbN⟩ : ∃ z, z = q1.heap.size := ⟨_, rfl⟩
        rw [← hbN] at hnw ⊢
        obtain ⟨k2, hk2⟩ : ∃ z, z = q1.alloc (Obj.cells #[.string (mm k).n, .int .i64 (mm k).g, .bool (mm k).wh, .int .i64 (mm k).f, .int .i64 (mm k).l, .slice ta (mm k).ts.length tc] 38) := ⟨_, rfl⟩
        rw [← hk2] at hnw hA2 hG2 hR2 hV2 hM2 hN2 ⊢
        clear hbN hk2
        refine wpAnyH_ready (rs := [5]) (by kernel_rfl) (by simp) ?_
        refine AllReadyH.cons (o := { dst := some 13, op := Op.call { callee := Callee.builtin Builtin.append, args := #[Operand.tmp 9, Operand.tmp 12], argTypes := #[22, 22] }, type := 22, pos := "l05_catalog.go:184", after := #[{ on := 1, ground := Ground.data }, { on := 4, ground := Ground.data }, { on := 3, ground := Ground.chain }], guard := none }) rfl (fun K hK => ?_) AllReadyH.nil
        obtain ⟨xs, x1, x2, x3, x4, x5⟩ := hM2
        have x2' := x2
        rw [HLL.out] at x2'
        refine DocR.step_append_own rfl _ _ 22 rfl (bV + 1) 38 i0 (.agg #[.string ⟨#[]⟩, .int .i64 0, .bool false, .int .i64 0, .int .i64 0, .slice none 0 0]) 6 72 Tryd.underlying22 hi hz0 hz1 hz2 rfl gsz6 _ _ _ rfl x2' ⟨bN, 0, none⟩ 1 1 [.string (mm k).n, .int .i64 (mm k).g, .bool (mm k).wh, .int .i64 (mm k).f, .int .i64 (mm k).l, .slice ta (mm k).ts.length tc] rfl rfl hnw (HME.out ta tc) sz1 sz2 (hV2.1.1) ?_
        intro v9 w9 hown hgrow hne
        have hA3 := after_grown hA2 hgrow (fun e => by have := (x2'.lt _ e.symm).1; omega)
        have hG3 := gnewR hG2 hgrow (fun X e => by have := (x2'.lt _ e).1; omega)
        have hR3 := blkW_grown hR2 hgrow (fun e => by have := (x2'.lt _ e.symm).1; omega)
        have hV3 := blkW_grown hV2 hgrow (fun e => by have := (x2'.lt _ e.symm).1; omega)
        have hM3 : MsO (bV + 1) v9 (LM (k + 1)) w9 := by
          rw [HLM.out]
          exact mso_snoc x1 x3 x4 x5 hbl hN2 x2 hgrow (by rw [HLL.out]; exact hown)
        obtain ⟨sb, sc, rfl⟩ := own_form hown
        clear hown hgrow hne hnw x1 x2 x3 x4 x5 x2'
        refine hK.out _ _ trivial (fun _ => ?_)
        clear hK K
        try simp only [Act.put, List.setIfInBounds_toArray, List.set_cons_zero, List.set_cons_succ]
        refine wpAnyH_take (i := 6) (oi := { dst := some 14, op := Op.fieldAddr 25 (Operand.tmp 3) 0, type := 0, pos := "l05_catalog.go:184", after := #[{ on := 0, ground := Ground.phase }, { on := 1, ground := Ground.phase }, { on := 2, ground := Ground.phase }, { on := 3, ground := Ground.phase }, { on := 4, ground := Ground.phase }, { on := 5, ground := Ground.phase }], guard := none }) (v := ?_) rfl (by kernel_rfl) (by kernel_rfl) (by kernel_rfl) (fun _ _ _ h => h) (Or.inl ⟨by rfl, ?_⟩) (by assumption) ?_
        rotate_left
        · (intro w hSw; (try dsimp only at hSw); go_simp) <;> with_reducible rfl
        try simp only [Act.put, List.setIfInBounds_toArray, List.set_cons_zero, List.set_cons_succ]
        refine wpAnyH_ready (rs := [7]) (by kernel_rfl) (by simp) ?_
        refine AllReadyH.cons (o := { dst := none, op := Op.store 22 (Operand.tmp 14) (Operand.tmp 13), type := 0, pos := "l05_catalog.go:184", after := #[{ on := 6, ground := Ground.data }, { on := 5, ground := Ground.data }, { on := 5, ground := Ground.chain }, { on := 0, ground := Ground.phase }, { on := 1, ground := Ground.phase }, { on := 2, ground := Ground.phase }, { on := 3, ground := Ground.phase }, { on := 4, ground := Ground.phase }, { on := 5, ground := Ground.phase }], guard := none }) rfl (fun K hK => ?_) AllReadyH.nil
        have c6 := hV3.1.2 0 (by simp)
        have l6 := hV3.1.1
        have f6 := hV3.2 0 (by simp)
        simp only [List.getElem?_cons_zero] at c6
        go_simp
        try go_wp2_with fail
        have hg := RowG.grown_set w9 bV 0 (.slice (some ⟨sb, 0, none⟩) (k + 1) sc)
        have hA9 := after_grown hA3 hg (by simp; omega)
        have hG9 := gnewG hG3 hg (by omega)
        have hR9 := blkW_grown hR3 hg (by simp; omega)
        have hV9 := hV3.set 0 (.slice (some ⟨sb, 0, none⟩) (k + 1) sc) (by simp)
        have hM9 := hM3.far hg (by omega)
        simp only [List.set_cons_zero] at hV9
        refine hK.out _ _ trivial (fun _ => ?_)
        clear hK K
        try simp only [Act.put, List.setIfInBounds_toArray, List.set_cons_zero, List.set_cons_succ]
        generalize (w9.setCell ⟨bV, 0, none⟩ (.slice (some ⟨sb, 0, none⟩) (k + 1) sc)) = kk at *
        refine wpAnyH_done (by kernel_rfl) ?_ _
        have HA9 := hid_intro hA9
        have HG9 := hid_intro hG9
        have HR9 := hid_intro hR9
        have HV9 := hid_intro hV9
        have HM9 := hid_intro hM9
        clear hA9 hG9 hR9 hV9 hM9 hg c6 l6 f6
        go_wp2_with fail
        go_roundw
        case rel => exact ⟨k + 1, some ⟨sb, 0, none⟩, sc, by omega, by go_num, HA9, HG9, HR9, HV9, HM9⟩
        case measure => simp [intOf]; omega
      · go_simp
        go_at_call 26
        refine (RMk.out _ hA0).mono ?_
        rintro e q1 ⟨ta, tc, rfl, hNz, hA1, hq1⟩
        try go_wp2_with fail
        have hG1 := gtrans hG0 hq1
        have hR1 := blkW_grown hR0 hq1 (by simp; omega)
        have hV1 := blkW_grown hV0 hq1 (by simp; omega)
        have hM1 := hM0.far hq1 (by omega)
        have hN1 := own_low hNz hL1
        clear hNz
        refine hK.out _ _ trivial (fun _ => ?_)
        clear hK K
        try simp only [Act.put, List.setIfInBounds_toArray, List.set_cons_zero, List.set_cons_succ]
        refine wpAnyH_ready (rs := [1, 4]) (by kernel_rfl) (by simp) ?_
        refine AllReadyH.cons (o := { dst := some 9, op := Op.load 22 (Operand.tmp 8), type := 22, pos := "l05_catalog.go:184", after := #[{ on := 0, ground := Ground.data }], guard := none }) rfl (fun K hK => ?_) (AllReadyH.cons (o := { dst := some 12, op := Op.buildSlice 22 1 #[(0, Operand.tmp 11)], type := 22, pos := "l05_catalog.go:184", after := #[{ on := 3, ground := Ground.data }], guard := none }) rfl (fun K hK => ?_) AllReadyH.nil)
        · have c6 := hV1.1.2 0 (by simp)
          have l6 := hV1.1.1
          simp only [List.getElem?_cons_zero] at c6
          go_simp
          try go_wp2_with fail
          refine hK.out _ _ trivial (fun _ => ?_)
          clear hK K
          try simp only [Act.put, List.setIfInBounds_toArray, List.set_cons_zero, List.set_cons_succ]
          clear c6 l6
          refine wpAnyH_ready (rs := [4]) (by kernel_rfl) (by simp) ?_
          refine AllReadyH.cons (o := { dst := some 12, op := Op.buildSlice 22 1 #[(0, Operand.tmp 11)], type := 22, pos := "l05_catalog.go:184", after := #[{ on := 3, ground := Ground.data }], guard := none }) rfl (fun K hK => ?_) AllReadyH.nil
          go_simp
          try go_wp2_with fail
          have hA2 := hA1.alloc (Obj.cells #[.string (mm k).n, .int .i64 (mm k).g, .bool (mm k).wh, .int .i64 (mm k).f, .int .i64 (mm k).l, .slice ta (mm k).ts.length tc] 38)
          have hG2 := galloc hG1 (Obj.cells #[.string (mm k).n, .int .i64 (mm k).g, .bool (mm k).wh, .int .i64 (mm k).f, .int .i64 (mm k).l, .slice ta (mm k).ts.length tc] 38)
          have hR2 := hR1.below ((Below.refl q1.heap.size q1).alloc (Nat.le_refl _) (Obj.cells #[.string (mm k).n, .int .i64 (mm k).g, .bool (mm k).wh, .int .i64 (mm k).f, .int .i64 (mm k).l, .slice ta (mm k).ts.length tc] 38))
          have hV2 := hV1.below ((Below.refl q1.heap.size q1).alloc (Nat.le_refl _) (Obj.cells #[.string (mm k).n, .int .i64 (mm k).g, .bool (mm k).wh, .int .i64 (mm k).f, .int .i64 (mm k).l, .slice ta (mm k).ts.length tc] 38))
          have hM2 := hM1.below ((Below.refl q1.heap.size q1).alloc (Nat.le_refl _) (Obj.cells #[.string (mm k).n, .int .i64 (mm k).g, .bool (mm k).wh, .int .i64 (mm k).f, .int .i64 (mm k).l, .slice ta (mm k).ts.length tc] 38))
          have hN2 := RowG.own_below hN1 ((Below.refl q1.heap.size q1).alloc (Nat.le_refl _) (Obj.cells #[.string (mm k).n, .int .i64 (mm k).g, .bool (mm k).wh, .int .i64 (mm k).f, .int .i64 (mm k).l, .slice ta (mm k).ts.length tc] 38))
          have hnw : ∀ j u, ([.string (mm k).n, .int .i64 (mm k).g, .bool (mm k).wh, .int .i64 (mm k).f, .int .i64 (mm k).l, .slice ta (mm k).ts.length tc] : List Value)[j]? = some u → (q1.alloc (Obj.cells #[.string (mm k).n, .int .i64 (mm k).g, .bool (mm k).wh, .int .i64 (mm k).f, .int .i64 (mm k).l, .slice ta (mm k).ts.length tc] 38)).cell? ((⟨q1.heap.size, 0, none⟩ : Addr).add j) = some u := new_cells q1 [.string (mm k).n, .int .i64 (mm k).g, .bool (mm k).wh, .int .i64 (mm k).f, .int .i64 (mm k).l, .slice ta (mm k).ts.length tc] 38
          refine hK.out _ _ trivial (fun _ => ?_)
          clear hK K
          try simp only [Act.put, List.setIfInBounds_toArray, List.set_cons_zero, List.set_cons_succ]
          obtain ⟨bN, hbN⟩ : ∃ z, z = q1.heap.size := ⟨_, rfl⟩
          rw [← hbN] at hnw ⊢
          obtain ⟨k2, hk2⟩ : ∃ z, z = q1.alloc (Obj.cells #[.string (mm k).n, .int .i64 (mm k).g, .bool (mm k).wh, .int .i64 (mm k).f, .int .i64 (mm k).l, .slice ta (mm k).ts.length tc] 38) := ⟨_, rfl⟩
          rw [← hk2] at hnw hA2 hG2 hR2 hV2 hM2 hN2 ⊢
          clear hbN hk2
          refine wpAnyH_ready (rs := [5]) (by kernel_rfl) (by simp) ?_
          refine AllReadyH.cons (o := { dst := some 13, op := Op.call { callee := Callee.builtin Builtin.append, args := #[Operand.tmp 9, Operand.tmp 12], argTypes := #[22, 22] }, type := 22, pos := "l05_catalog.go:184", after := #[{ on := 1, ground := Ground.data }, { on := 4, ground := Ground.data }, { on := 3, ground := Ground.chain }], guard := none }) rfl (fun K hK => ?_) AllReadyH.nil
          obtain ⟨xs, x1, x2, x3, x4, x5⟩ := hM2
          have x2' := x2
          rw [HLL.out] at x2'
          refine DocR.step_append_own rfl _ _ 22 rfl (bV + 1) 38 i0 (.agg #[.string ⟨#[]⟩, .int .i64 0, .bool false, .int .i64 0, .int .i64 0, .slice none 0 0]) 6 72 Tryd.underlying22 hi hz0 hz1 hz2 rfl gsz6 _ _ _ rfl x2' ⟨bN, 0, none⟩ 1 1 [.string (mm k).n, .int .i64 (mm k).g, .bool (mm k).wh, .int .i64 (mm k).f, .int .i64 (mm k).l, .slice ta (mm k).ts.length tc] rfl rfl hnw (HME.out ta tc) sz1 sz2 (hV2.1.1) ?_
          intro v9 w9 hown hgrow hne
          have hA3 := after_grown hA2 hgrow (fun e => by have := (x2'.lt _ e.symm).1; omega)
          have hG3 := gnewR hG2 hgrow (fun X e => by have := (x2'.lt _ e).1; omega)
          have hR3 := blkW_grown hR2 hgrow (fun e => by have := (x2'.lt _ e.symm).1; omega)
          have hV3 := blkW_grown hV2 hgrow (fun e => by have := (x2'.lt _ e.symm).1; omega)
          have hM3 : MsO (bV + 1) v9 (LM (k + 1)) w9 := by
            rw [HLM.out]
            exact mso_snoc x1 x3 x4 x5 hbl hN2 x2 hgrow (by rw [HLL.out]; exact hown)
          obtain ⟨sb, sc, rfl⟩ := own_form hown
          clear hown hgrow hne hnw x1 x2 x3 x4 x5 x2'
          refine hK.out _ _ trivial (fun _ => ?_)
          clear hK K
          try simp only [Act.put, List.setIfInBounds_toArray, List.set_cons_zero, List.set_cons_succ]
          refine wpAnyH_take (i := 6) (oi := { dst := some 14, op := Op.fieldAddr 25 (Operand.tmp 3) 0, type := 0, pos := "l05_catalog.go:184", after := #[{ on := 0, ground := Ground.phase }, { on := 1, ground := Ground.phase }, { on := 2, ground := Ground.phase }, { on := 3, ground := Ground.phase }, { on := 4, ground := Ground.phase }, { on := 5, ground := Ground.phase }], guard := none }) (v := ?_) rfl (by kernel_rfl) (by kernel_rfl) (by kernel_rfl) (fun _ _ _ h => h) (Or.inl ⟨by rfl, ?_⟩) (by assumption) ?_
          rotate_left
          · (intro w hSw; (try dsimp only at hSw); go_simp) <;> with_reducible rfl
          try simp only [Act.put, List.setIfInBounds_toArray, List.set_cons_zero, List.set_cons_succ]
          refine wpAnyH_ready (rs := [7]) (by kernel_rfl) (by simp) ?_
          refine AllReadyH.cons (o := { dst := none, op := Op.store 22 (Operand.tmp 14) (Operand.tmp 13), type := 0, pos := "l05_catalog.go:184", after := #[{ on := 6, ground := Ground.data }, { on := 5, ground := Ground.data }, { on := 5, ground := Ground.chain }, { on := 0, ground := Ground.phase }, { on := 1, ground := Ground.phase }, { on := 2, ground := Ground.phase }, { on := 3, ground := Ground.phase }, { on := 4, ground := Ground.phase }, { on := 5, ground := Ground.phase }], guard := none }) rfl (fun K hK => ?_) AllReadyH.nil
          have c6 := hV3.1.2 0 (by simp)
          have l6 := hV3.1.1
          have f6 := hV3.2 0 (by simp)
          simp only [List.getElem?_cons_zero] at c6
          go_simp
          try go_wp2_with fail
          have hg := RowG.grown_set w9 bV 0 (.slice (some ⟨sb, 0, none⟩) (k + 1) sc)
          have hA9 := after_grown hA3 hg (by simp; omega)
          have hG9 := gnewG hG3 hg (by omega)
          have hR9 := blkW_grown hR3 hg (by simp; omega)
          have hV9 := hV3.set 0 (.slice (some ⟨sb, 0, none⟩) (k + 1) sc) (by simp)
          have hM9 := hM3.far hg (by omega)
          simp only [List.set_cons_zero] at hV9
          refine hK.out _ _ trivial (fun _ => ?_)
          clear hK K
          try simp only [Act.put, List.setIfInBounds_toArray, List.set_cons_zero, List.set_cons_succ]
          generalize (w9.setCell ⟨bV, 0, none⟩ (.slice (some ⟨sb, 0, none⟩) (k + 1) sc)) = kk at *
          refine wpAnyH_done (by kernel_rfl) ?_ _
          have HA9 := hid_intro hA9
          have HG9 := hid_intro hG9
          have HR9 := hid_intro hR9
          have HV9 := hid_intro hV9
          have HM9 := hid_intro hM9
          clear hA9 hG9 hR9 hV9 hM9 hg c6 l6 f6
          go_wp2_with fail
          go_roundw
          case rel => exact ⟨k + 1, some ⟨sb, 0, none⟩, sc, by omega, by go_num, HA9, HG9, HR9, HV9, HM9⟩
          case measure => simp [intOf]; omega
        · go_simp
          try go_wp2_with fail
          have hA2 := hA1.alloc (Obj.cells #[.string (mm k).n, .int .i64 (mm k).g, .bool (mm k).wh, .int .i64 (mm k).f, .int .i64 (mm k).l, .slice ta (mm k).ts.length tc] 38)
          have hG2 := galloc hG1 (Obj.cells #[.string (mm k).n, .int .i64 (mm k).g, .bool (mm k).wh, .int .i64 (mm k).f, .int .i64 (mm k).l, .slice ta (mm k).ts.length tc] 38)
          have hR2 := hR1.below ((Below.refl q1.heap.size q1).alloc (Nat.le_refl _) (Obj.cells #[.string (mm k).n, .int .i64 (mm k).g, .bool (mm k).wh, .int .i64 (mm k).f, .int .i64 (mm k).l, .slice ta (mm k).ts.length tc] 38))
          have hV2 := hV1.below ((Below.refl q1.heap.size q1).alloc (Nat.le_refl _) (Obj.cells #[.string (mm k).n, .int .i64 (mm k).g, .bool (mm k).wh, .int .i64 (mm k).f, .int .i64 (mm k).l, .slice ta (mm k).ts.length tc] 38))
          have hM2 := hM1.below ((Below.refl q1.heap.size q1).alloc (Nat.le_refl _) (Obj.cells #[.string (mm k).n, .int .i64 (mm k).g, .bool (mm k).wh, .int .i64 (mm k).f, .int .i64 (mm k).l, .slice ta (mm k).ts.length tc] 38))
          have hN2 := RowG.own_below hN1 ((Below.refl q1.heap.size q1).alloc (Nat.le_refl _) (Obj.cells #[.string (mm k).n, .int .i64 (mm k).g, .bool (mm k).wh, .int .i64 (mm k).f, .int .i64 (mm k).l, .slice ta (mm k).ts.length tc] 38))
          have hnw : ∀ j u, ([.string (mm k).n, .int .i64 (mm k).g, .bool (mm k).wh, .int .i64 (mm k).f, .int .i64 (mm k).l, .slice ta (mm k).ts.length tc] : List Value)[j]? = some u → (q1.alloc (Obj.cells #[.string (mm k).n, .int .i64 (mm k).g, .bool (mm k).wh, .int .i64 (mm k).f, .int .i64 (mm k).l, .slice ta (mm k).ts.length tc] 38)).cell? ((⟨q1.heap.size, 0, none⟩ : Addr).add j) = some u := new_cells q1 [.string (mm k).n, .int .i64 (mm k).g, .bool (mm k).wh, .int .i64 (mm k).f, .int .i64 (mm k).l, .slice ta (mm k).ts.length tc] 38
          refine hK.out _ _ trivial (fun _ => ?_)
          clear hK K
          try simp only [Act.put, List.setIfInBounds_toArray, List.set_cons_zero, List.set_cons_succ]
          obtain ⟨bN, hbN⟩ : ∃ z, z = q1.heap.size := ⟨_, rfl⟩
          rw [← hbN] at hnw ⊢
          obtain ⟨k2, hk2⟩ : ∃ z, z = q1.alloc (Obj.cells #[.string (mm k).n, .int .i64 (mm k).g, .bool (mm k).wh, .int .i64 (mm k).f, .int .i64 (mm k).l, .slice ta (mm k).ts.length tc] 38) := ⟨_, rfl⟩
          rw [← hk2] at hnw hA2 hG2 hR2 hV2 hM2 hN2 ⊢
          clear hbN hk2
          refine wpAnyH_ready (rs := [1]) (by kernel_rfl) (by simp) ?_
          refine AllReadyH.cons (o := { dst := some 9, op := Op.load 22 (Operand.tmp 8), type := 22, pos := "l05_catalog.go:184", after := #[{ on := 0, ground := Ground.data }], guard := none }) rfl (fun K hK => ?_) AllReadyH.nil
          have c6 := hV2.1.2 0 (by simp)
          have l6 := hV2.1.1
          simp only [List.getElem?_cons_zero] at c6
          go_simp
          try go_wp2_with fail
          refine hK.out _ _ trivial (fun _ => ?_)
          clear hK K
          try simp only [Act.put, List.setIfInBounds_toArray, List.set_cons_zero, List.set_cons_succ]
          clear c6 l6
          refine wpAnyH_ready (rs := [5]) (by kernel_rfl) (by simp) ?_
          refine AllReadyH.cons (o := { dst := some 13, op := Op.call { callee := Callee.builtin Builtin.append, args := #[Operand.tmp 9, Operand.tmp 12], argTypes := #[22, 22] }, type := 22, pos := "l05_catalog.go:184", after := #[{ on := 1, ground := Ground.data }, { on := 4, ground := Ground.data }, { on := 3, ground := Ground.chain }], guard := none }) rfl (fun K hK => ?_) AllReadyH.nil
          obtain ⟨xs, x1, x2, x3, x4, x5⟩ := hM2
          have x2' := x2
          rw [HLL.out] at x2'
          refine DocR.step_append_own rfl _ _ 22 rfl (bV + 1) 38 i0 (.agg #[.string ⟨#[]⟩, .int .i64 0, .bool false, .int .i64 0, .int .i64 0, .slice none 0 0]) 6 72 Tryd.underlying22 hi hz0 hz1 hz2 rfl gsz6 _ _ _ rfl x2' ⟨bN, 0, none⟩ 1 1 [.string (mm k).n, .int .i64 (mm k).g, .bool (mm k).wh, .int .i64 (mm k).f, .int .i64 (mm k).l, .slice ta (mm k).ts.length tc] rfl rfl hnw (HME.out ta tc) sz1 sz2 (hV2.1.1) ?_
          intro v9 w9 hown hgrow hne
          have hA3 := after_grown hA2 hgrow (fun e => by have := (x2'.lt _ e.symm).1; omega)
          have hG3 := gnewR hG2 hgrow (fun X e => by have := (x2'.lt _ e).1; omega)
          have hR3 := blkW_grown hR2 hgrow (fun e => by have := (x2'.lt _ e.symm).1; omega)
          have hV3 := blkW_grown hV2 hgrow (fun e => by have := (x2'.lt _ e.symm).1; omega)
          have hM3 : MsO (bV + 1) v9 (LM (k + 1)) w9 := by
            rw [HLM.out]
            exact mso_snoc x1 x3 x4 x5 hbl hN2 x2 hgrow (by rw [HLL.out]; exact hown)
          obtain ⟨sb, sc, rfl⟩ := own_form hown
          clear hown hgrow hne hnw x1 x2 x3 x4 x5 x2'
          refine hK.out _ _ trivial (fun _ => ?_)
          clear hK K
          try simp only [Act.put, List.setIfInBounds_toArray, List.set_cons_zero, List.set_cons_succ]
          refine wpAnyH_take (i := 6) (oi := { dst := some 14, op := Op.fieldAddr 25 (Operand.tmp 3) 0, type := 0, pos := "l05_catalog.go:184", after := #[{ on := 0, ground := Ground.phase }, { on := 1, ground := Ground.phase }, { on := 2, ground := Ground.phase }, { on := 3, ground := Ground.phase }, { on := 4, ground := Ground.phase }, { on := 5, ground := Ground.phase }], guard := none }) (v := ?_) rfl (by kernel_rfl) (by kernel_rfl) (by kernel_rfl) (fun _ _ _ h => h) (Or.inl ⟨by rfl, ?_⟩) (by assumption) ?_
          rotate_left
          · (intro w hSw; (try dsimp only at hSw); go_simp) <;> with_reducible rfl
          try simp only [Act.put, List.setIfInBounds_toArray, List.set_cons_zero, List.set_cons_succ]
          refine wpAnyH_ready (rs := [7]) (by kernel_rfl) (by simp) ?_
          refine AllReadyH.cons (o := { dst := none, op := Op.store 22 (Operand.tmp 14) (Operand.tmp 13), type := 0, pos := "l05_catalog.go:184", after := #[{ on := 6, ground := Ground.data }, { on := 5, ground := Ground.data }, { on := 5, ground := Ground.chain }, { on := 0, ground := Ground.phase }, { on := 1, ground := Ground.phase }, { on := 2, ground := Ground.phase }, { on := 3, ground := Ground.phase }, { on := 4, ground := Ground.phase }, { on := 5, ground := Ground.phase }], guard := none }) rfl (fun K hK => ?_) AllReadyH.nil
          have c6 := hV3.1.2 0 (by simp)
          have l6 := hV3.1.1
          have f6 := hV3.2 0 (by simp)
          simp only [List.getElem?_cons_zero] at c6
          go_simp
          try go_wp2_with fail
          have hg := RowG.grown_set w9 bV 0 (.slice (some ⟨sb, 0, none⟩) (k + 1) sc)
          have hA9 := after_grown hA3 hg (by simp; omega)
          have hG9 := gnewG hG3 hg (by omega)
          have hR9 := blkW_grown hR3 hg (by simp; omega)
          have hV9 := hV3.set 0 (.slice (some ⟨sb, 0, none⟩) (k + 1) sc) (by simp)
          have hM9 := hM3.far hg (by omega)
          simp only [List.set_cons_zero] at hV9
          refine hK.out _ _ trivial (fun _ => ?_)
          clear hK K
          try simp only [Act.put, List.setIfInBounds_toArray, List.set_cons_zero, List.set_cons_succ]
          generalize (w9.setCell ⟨bV, 0, none⟩ (.slice (some ⟨sb, 0, none⟩) (k + 1) sc)) = kk at *
          refine wpAnyH_done (by kernel_rfl) ?_ _
          have HA9 := hid_intro hA9
          have HG9 := hid_intro hG9
          have HR9 := hid_intro hR9
          have HV9 := hid_intro hV9
          have HM9 := hid_intro hM9
          clear hA9 hG9 hR9 hV9 hM9 hg c6 l6 f6
          go_wp2_with fail
          go_roundw
          case rel => exact ⟨k + 1, some ⟨sb, 0, none⟩, sc, by omega, by go_num, HA9, HG9, HR9, HV9, HM9⟩
          case measure => simp [intOf]; omega
    · have hlt2 : ¬ (k : Int) < (C : Int) := by omega
      obtain rfl : k = C := by omega
      go_wp2_with fail
      refine (RC2.out _ HA.out).mono ?_
      rintro e wD ⟨rfl, hA, hq⟩
      replace HA := hid_intro hA
      replace HG := hid_intro (gtrans HG.out hq)
      replace HR := hid_intro (blkW_grown HR.out hq (by simp; omega))
      replace HV := hid_intro (blkW_grown HV.out hq (by simp; omega))
      replace HM := hid_intro (HM.out.far hq (by omega))
      clear hA hq
      go_wp2_with fail
      go_loopw [18] (fun z wr => ∃ (i : Nat) (ca : Option Addr) (cc : Nat), i ≤ D ∧ z = .int .i64 i ∧ Hid (After g s (PC i) wr) ∧ Hid (w.grownBy wr (some g)) ∧ Hid (BlkW w.heap.size [.slice none 0 0, .slice none 0 0] wr) ∧ Hid (BlkW bV [.slice ma k mc, .slice ca i cc] wr) ∧ Hid (wr.ownsRow (bV + 1) 42 2 (.slice ca i cc) i (cellsAll Cr.cells (LC i))) ∧ Hid (MsO (bV + 1) (.slice ma k mc) (LM k) wr)) (fun z _ => D - (intOf z).toNat)
      case atStart => exact ⟨0, none, 0, by omega, rfl, HA, HG, HR, HV, hid_intro (by rw [HC0.out]; exact World.ownsRow_nil _ _ _ _), HM⟩
      case round =>
        clear HA HG HR HV HM
        obtain ⟨i, ca, cc, hk2, rfl, HA, HG, HR, HV, HO, HM⟩ := hrel
        by_cases hlt3 : i < D
        · have hlt4 : (i : Int) < (D : Int) := by omega
          obtain ⟨om, rd1, rd2⟩ := RH.out i
          have RD1 := hid_intro rd1
          have RD2 := hid_intro rd2
          clear rd1 rd2
          have HLM := hid_intro (HCM.out i)
          generalize hh i = X at *
          generalize ss i = Y at *
          have sz1 : i + 1 ≤ maxLen := by unfold maxLen; omega
          have sz2 : (i + 1) * 24 ≤ 140737488355328 := by omega
          have hA0 := EvtR.After.below HA.out (Below.refl wr.heap.size wr).drew
          have hG0 := gtrans HG.out (EvtR.rgrown (Below.refl wr.heap.size wr).drew _)
          have hR0 := HR.out.below (Below.refl wr.heap.size wr).drew
          have hV0 := HV.out.below (Below.refl wr.heap.size wr).drew
          have hO0 := RowG.own_below HO.out (Below.refl wr.heap.size wr).drew
          have hM0 := HM.out.below (Below.refl wr.heap.size wr).drew
          have hbg : g < bV := by omega
          go_wp2_with fail
          refine wp_region_held_drew (S := (fun _ => True)) (by kernel_rfl) trivial (fun hHeld => ?_)
          generalize wr.drew = kd at *
          apply memo3 (fun bN sb sc W => (True) ∧ (After g s (PC (i + 1)) W) ∧ (w.grownBy W (some g)) ∧ (BlkW w.heap.size [.slice none 0 0, .slice none 0 0] W) ∧ (BlkW bV [.slice ma k mc, .slice ca i cc] W) ∧ (W.ownsRow (bV + 1) 42 2 (.slice (some ⟨sb, 0, none⟩) (i + 1) sc) (i + 1) (cellsAll Cr.cells (LC (i + 1)))) ∧ (MsO (bV + 1) (.slice ma k mc) (LM k) W) ∧ True)
          intro N1_3_5_7_8
          apply memo1 (fun bN W => (True) ∧ (After g s (PC (i + 1)) W) ∧ (w.grownBy W (some g)) ∧ (BlkW w.heap.size [.slice none 0 0, .slice none 0 0] W) ∧ (BlkW bV [.slice ma k mc, .slice ca i cc] W) ∧ (W.ownsRow (bV + 1) 42 2 (.slice ca i cc) i (cellsAll Cr.cells (LC i))) ∧ (MsO (bV + 1) (.slice ma k mc) (LM k) W) ∧ (∀ j u, ([.string X, .int .i64 Y] : List Value)[j]? = some u → W.cell? ((⟨bN, 0, none⟩ : Addr).add j) = some u) ∧ (bV < bN) ∧ True)
          intro N1_3_5_7
          apply memo0 (fun  W => (True) ∧ (After g s (PC (i + 1)) W) ∧ (w.grownBy W (some g)) ∧ (BlkW w.heap.size [.slice none 0 0, .slice none 0 0] W) ∧ (BlkW bV [.slice ma k mc, .slice ca i cc] W) ∧ (W.ownsRow (bV + 1) 42 2 (.slice ca i cc) i (cellsAll Cr.cells (LC i))) ∧ (MsO (bV + 1) (.slice ma k mc) (LM k) W) ∧ True)
          intro N1_3_5
          apply memo1 (fun bN W => (True) ∧ (After g s (PC (i + 1)) W) ∧ (w.grownBy W (some g)) ∧ (BlkW w.heap.size [.slice none 0 0, .slice none 0 0] W) ∧ (BlkW bV [.slice ma k mc, .slice ca i cc] W) ∧ (W.ownsRow (bV + 1) 42 2 (.slice ca i cc) i (cellsAll Cr.cells (LC i))) ∧ (MsO (bV + 1) (.slice ma k mc) (LM k) W) ∧ (∀ j u, ([.string X, .int .i64 Y] : List Value)[j]? = some u → W.cell? ((⟨bN, 0, none⟩ : Addr).add j) = some u) ∧ (bV < bN) ∧ True)
          intro N3_5_7
          apply memo0 (fun  W => (True) ∧ (After g s om W) ∧ (w.grownBy W (some g)) ∧ (BlkW w.heap.size [.slice none 0 0, .slice none 0 0] W) ∧ (BlkW bV [.slice ma k mc, .slice ca i cc] W) ∧ (W.ownsRow (bV + 1) 42 2 (.slice ca i cc) i (cellsAll Cr.cells (LC i))) ∧ (MsO (bV + 1) (.slice ma k mc) (LM k) W) ∧ True)
          intro N1_3
          apply memo0 (fun  W => (True) ∧ (After g s (PC (i + 1)) W) ∧ (w.grownBy W (some g)) ∧ (BlkW w.heap.size [.slice none 0 0, .slice none 0 0] W) ∧ (BlkW bV [.slice ma k mc, .slice ca i cc] W) ∧ (W.ownsRow (bV + 1) 42 2 (.slice ca i cc) i (cellsAll Cr.cells (LC i))) ∧ (MsO (bV + 1) (.slice ma k mc) (LM k) W) ∧ True)
          intro N3_5
          apply memo0 (fun  W => (True) ∧ (After g s (PC i) W) ∧ (w.grownBy W (some g)) ∧ (BlkW w.heap.size [.slice none 0 0, .slice none 0 0] W) ∧ (BlkW bV [.slice ma k mc, .slice ca i cc] W) ∧ (W.ownsRow (bV + 1) 42 2 (.slice ca i cc) i (cellsAll Cr.cells (LC i))) ∧ (MsO (bV + 1) (.slice ma k mc) (LM k) W) ∧ True)
          intro N1
          apply memo0 (fun  W => (True) ∧ (After g s om W) ∧ (w.grownBy W (some g)) ∧ (BlkW w.heap.size [.slice none 0 0, .slice none 0 0] W) ∧ (BlkW bV [.slice ma k mc, .slice ca i cc] W) ∧ (W.ownsRow (bV + 1) 42 2 (.slice ca i cc) i (cellsAll Cr.cells (LC i))) ∧ (MsO (bV + 1) (.slice ma k mc) (LM k) W) ∧ True)
          intro N3
          · refine wpAnyH_take (i := 0) (oi := { dst := some 20, op := Op.fieldAddr 25 (Operand.tmp 3) 1, type := 0, pos := "l05_catalog.go:187", after := #[], guard := none }) (v := ?_) rfl (by kernel_rfl) (by kernel_rfl) (by kernel_rfl) (fun _ _ _ h => h) (Or.inl ⟨by rfl, ?_⟩) (by assumption) ?_
            rotate_left
            · (intro w hSw; (try dsimp only at hSw); go_simp) <;> with_reducible rfl
            try simp only [Act.put, List.setIfInBounds_toArray, List.set_cons_zero, List.set_cons_succ]
            refine wpAnyH_take (i := 2) (oi := { dst := some 22, op := Op.move (Operand.tmp 0), type := 45, pos := "l05_catalog.go:187", after := #[], guard := none }) (v := ?_) rfl (by kernel_rfl) (by kernel_rfl) (by kernel_rfl) (fun _ _ _ h => h) (Or.inl ⟨by rfl, ?_⟩) (by assumption) ?_
            rotate_left
            · (intro w hSw; (try dsimp only at hSw); go_simp) <;> with_reducible rfl
            try simp only [Act.put, List.setIfInBounds_toArray, List.set_cons_zero, List.set_cons_succ]
            refine wpAnyH_take (i := 4) (oi := { dst := some 24, op := Op.move (Operand.tmp 0), type := 45, pos := "l05_catalog.go:187", after := #[], guard := none }) (v := ?_) rfl (by kernel_rfl) (by kernel_rfl) (by kernel_rfl) (fun _ _ _ h => h) (Or.inl ⟨by rfl, ?_⟩) (by assumption) ?_
            rotate_left
            · (intro w hSw; (try dsimp only at hSw); go_simp) <;> with_reducible rfl
            try simp only [Act.put, List.setIfInBounds_toArray, List.set_cons_zero, List.set_cons_succ]
            refine wpAnyH_ready (rs := [1, 3]) (by kernel_rfl) (by simp) ?_
            refine AllReadyH.cons (o := { dst := some 21, op := Op.load 23 (Operand.tmp 20), type := 23, pos := "l05_catalog.go:187", after := #[{ on := 0, ground := Ground.data }], guard := none }) rfl (fun K hK => ?_) (AllReadyH.cons (o := { dst := some 23, op := Op.call { callee := Callee.value (Operand.func 27), args := #[Operand.tmp 22], argTypes := #[45] }, type := 9, pos := "l05_catalog.go:187", after := #[{ on := 2, ground := Ground.data }], guard := none }) rfl (fun K hK => ?_) AllReadyH.nil)
            · have c6 := hV0.1.2 1 (by simp)
              have l6 := hV0.1.1
              simp only [List.getElem?_cons_zero, List.getElem?_cons_succ] at c6
              go_simp
              try go_wp2_with fail
              refine hK.out _ _ trivial (fun _ => ?_)
              clear hK K
              try simp only [Act.put, List.setIfInBounds_toArray, List.set_cons_zero, List.set_cons_succ]
              clear c6 l6
              exact N1.out  kd ⟨trivial, hA0, hG0, hR0, hV0, hO0, hM0, trivial⟩
            · go_simp
              go_at_call 27
              refine (RD1.out _ hA0).mono ?_
              rintro e q1 ⟨rfl, hA1, hq1⟩
              try go_wp2_with fail
              have hG1 := gtrans hG0 hq1
              have hR1 := blkW_grown hR0 hq1 (by simp; omega)
              have hV1 := blkW_grown hV0 hq1 (by simp; omega)
              have hO1 := own_keepG hO0 hq1 (by omega)
              have hM1 := hM0.far hq1 (by omega)
              refine hK.out _ _ trivial (fun _ => ?_)
              clear hK K
              try simp only [Act.put, List.setIfInBounds_toArray, List.set_cons_zero, List.set_cons_succ]
              exact N3.out  q1 ⟨trivial, hA1, hG1, hR1, hV1, hO1, hM1, trivial⟩
          · rintro  W ⟨hTr, hA0, hG0, hR0, hV0, hO0, hM0, _⟩
            refine wpAnyH_ready (rs := [1, 5]) (by kernel_rfl) (by simp) ?_
            refine AllReadyH.cons (o := { dst := some 21, op := Op.load 23 (Operand.tmp 20), type := 23, pos := "l05_catalog.go:187", after := #[{ on := 0, ground := Ground.data }], guard := none }) rfl (fun K hK => ?_) (AllReadyH.cons (o := { dst := some 25, op := Op.call { callee := Callee.value (Operand.func 28), args := #[Operand.tmp 24], argTypes := #[45] }, type := 2, pos := "l05_catalog.go:187", after := #[{ on := 4, ground := Ground.data }, { on := 3, ground := Ground.chain }], guard := none }) rfl (fun K hK => ?_) AllReadyH.nil)
            · have c6 := hV0.1.2 1 (by simp)
              have l6 := hV0.1.1
              simp only [List.getElem?_cons_zero, List.getElem?_cons_succ] at c6
              go_simp
              try go_wp2_with fail
              refine hK.out _ _ trivial (fun _ => ?_)
              clear hK K
              try simp only [Act.put, List.setIfInBounds_toArray, List.set_cons_zero, List.set_cons_succ]
              clear c6 l6
              exact N1_3.out  W ⟨trivial, hA0, hG0, hR0, hV0, hO0, hM0, trivial⟩
            · go_simp
              go_at_call 28
              refine (RD2.out _ hA0).mono ?_
              rintro e q1 ⟨rfl, hA1, hq1⟩
              try go_wp2_with fail
              have hG1 := gtrans hG0 hq1
              have hR1 := blkW_grown hR0 hq1 (by simp; omega)
              have hV1 := blkW_grown hV0 hq1 (by simp; omega)
              have hO1 := own_keepG hO0 hq1 (by omega)
              have hM1 := hM0.far hq1 (by omega)
              refine hK.out _ _ trivial (fun _ => ?_)
              clear hK K
              try simp only [Act.put, List.setIfInBounds_toArray, List.set_cons_zero, List.set_cons_succ]
              refine wpAnyH_take (i := 6) (oi := { dst := some 26, op := Op.build 42 #[(0, Operand.tmp 23), (1, Operand.tmp 25)], type := 42, pos := "l05_catalog.go:187", after := #[{ on := 3, ground := Ground.data }, { on := 5, ground := Ground.data }], guard := none }) (v := ?_) rfl (by kernel_rfl) (by kernel_rfl) (by kernel_rfl) (fun _ _ _ h => h) (Or.inl ⟨by rfl, ?_⟩) (by assumption) ?_
              rotate_left
              · (intro w hSw; (try dsimp only at hSw); go_simp) <;> with_reducible rfl
              try simp only [Act.put, List.setIfInBounds_toArray, List.set_cons_zero, List.set_cons_succ]
              exact N3_5.out  q1 ⟨trivial, hA1, hG1, hR1, hV1, hO1, hM1, trivial⟩
          · rintro  W ⟨hTr, hA0, hG0, hR0, hV0, hO0, hM0, _⟩
            refine wpAnyH_ready (rs := [3]) (by kernel_rfl) (by simp) ?_
            refine AllReadyH.cons (o := { dst := some 23, op := Op.call { callee := Callee.value (Operand.func 27), args := #[Operand.tmp 22], argTypes := #[45] }, type := 9, pos := "l05_catalog.go:187", after := #[{ on := 2, ground := Ground.data }], guard := none }) rfl (fun K hK => ?_) AllReadyH.nil
            go_simp
            go_at_call 27
            refine (RD1.out _ hA0).mono ?_
            rintro e q1 ⟨rfl, hA1, hq1⟩
            try go_wp2_with fail
            have hG1 := gtrans hG0 hq1
            have hR1 := blkW_grown hR0 hq1 (by simp; omega)
            have hV1 := blkW_grown hV0 hq1 (by simp; omega)
            have hO1 := own_keepG hO0 hq1 (by omega)
            have hM1 := hM0.far hq1 (by omega)
            refine hK.out _ _ trivial (fun _ => ?_)
            clear hK K
            try simp only [Act.put, List.setIfInBounds_toArray, List.set_cons_zero, List.set_cons_succ]
            exact N1_3.out  q1 ⟨trivial, hA1, hG1, hR1, hV1, hO1, hM1, trivial⟩
          · rintro  W ⟨hTr, hA0, hG0, hR0, hV0, hO0, hM0, _⟩
            refine wpAnyH_ready (rs := [1, 7]) (by kernel_rfl) (by simp) ?_
            refine AllReadyH.cons (o := { dst := some 21, op := Op.load 23 (Operand.tmp 20), type := 23, pos := "l05_catalog.go:187", after := #[{ on := 0, ground := Ground.data }], guard := none }) rfl (fun K hK => ?_) (AllReadyH.cons (o := { dst := some 27, op := Op.buildSlice 23 1 #[(0, Operand.tmp 26)], type := 23, pos := "l05_catalog.go:187", after := #[{ on := 6, ground := Ground.data }], guard := none }) rfl (fun K hK => ?_) AllReadyH.nil)
            · have c6 := hV0.1.2 1 (by simp)
              have l6 := hV0.1.1
              simp only [List.getElem?_cons_zero, List.getElem?_cons_succ] at c6
              go_simp
              try go_wp2_with fail
              refine hK.out _ _ trivial (fun _ => ?_)
              clear hK K
              try simp only [Act.put, List.setIfInBounds_toArray, List.set_cons_zero, List.set_cons_succ]
              clear c6 l6
              exact N1_3_5.out  W ⟨trivial, hA0, hG0, hR0, hV0, hO0, hM0, trivial⟩
            · go_simp
              try go_wp2_with fail
              have hA1 := hA0.alloc (Obj.cells #[.string X, .int .i64 Y] 42)
              have hG1 := galloc hG0 (Obj.cells #[.string X, .int .i64 Y] 42)
              have hR1 := hR0.below ((Below.refl W.heap.size W).alloc (Nat.le_refl _) (Obj.cells #[.string X, .int .i64 Y] 42))
              have hV1 := hV0.below ((Below.refl W.heap.size W).alloc (Nat.le_refl _) (Obj.cells #[.string X, .int .i64 Y] 42))
              have hO1 := RowG.own_below hO0 ((Below.refl W.heap.size W).alloc (Nat.le_refl _) (Obj.cells #[.string X, .int .i64 Y] 42))
              have hM1 := hM0.below ((Below.refl W.heap.size W).alloc (Nat.le_refl _) (Obj.cells #[.string X, .int .i64 Y] 42))
              have hnw : ∀ j u, ([.string X, .int .i64 Y] : List Value)[j]? = some u → (W.alloc (Obj.cells #[.string X, .int .i64 Y] 42)).cell? ((⟨W.heap.size, 0, none⟩ : Addr).add j) = some u := new_cells W [.string X, .int .i64 Y] 42
              have hlb : bV < W.heap.size := hV0.1.1
              refine hK.out _ _ trivial (fun _ => ?_)
              clear hK K
              try simp only [Act.put, List.setIfInBounds_toArray, List.set_cons_zero, List.set_cons_succ]
              obtain ⟨bN, hbN⟩ : ∃ z, z = W.heap.size := ⟨_, rfl⟩
              rw [← hbN] at hnw hlb ⊢
              obtain ⟨k1, hk1⟩ : ∃ z, z = W.alloc (Obj.cells #[.string X, .int .i64 Y] 42) := ⟨_, rfl⟩
              rw [← hk1] at hnw hA1 hG1 hR1 hV1 hO1 hM1 ⊢
              exact N3_5_7.out bN k1 ⟨trivial, hA1, hG1, hR1, hV1, hO1, hM1, hnw, hlb, trivial⟩
          · rintro  W ⟨hTr, hA0, hG0, hR0, hV0, hO0, hM0, _⟩
            refine wpAnyH_ready (rs := [5]) (by kernel_rfl) (by simp) ?_
            refine AllReadyH.cons (o := { dst := some 25, op := Op.call { callee := Callee.value (Operand.func 28), args := #[Operand.tmp 24], argTypes := #[45] }, type := 2, pos := "l05_catalog.go:187", after := #[{ on := 4, ground := Ground.data }, { on := 3, ground := Ground.chain }], guard := none }) rfl (fun K hK => ?_) AllReadyH.nil
            go_simp
            go_at_call 28
            refine (RD2.out _ hA0).mono ?_
            rintro e q1 ⟨rfl, hA1, hq1⟩
            try go_wp2_with fail
            have hG1 := gtrans hG0 hq1
            have hR1 := blkW_grown hR0 hq1 (by simp; omega)
            have hV1 := blkW_grown hV0 hq1 (by simp; omega)
            have hO1 := own_keepG hO0 hq1 (by omega)
            have hM1 := hM0.far hq1 (by omega)
            refine hK.out _ _ trivial (fun _ => ?_)
            clear hK K
            try simp only [Act.put, List.setIfInBounds_toArray, List.set_cons_zero, List.set_cons_succ]
            refine wpAnyH_take (i := 6) (oi := { dst := some 26, op := Op.build 42 #[(0, Operand.tmp 23), (1, Operand.tmp 25)], type := 42, pos := "l05_catalog.go:187", after := #[{ on := 3, ground := Ground.data }, { on := 5, ground := Ground.data }], guard := none }) (v := ?_) rfl (by kernel_rfl) (by kernel_rfl) (by kernel_rfl) (fun _ _ _ h => h) (Or.inl ⟨by rfl, ?_⟩) (by assumption) ?_
            rotate_left
            · (intro w hSw; (try dsimp only at hSw); go_simp) <;> with_reducible rfl
            try simp only [Act.put, List.setIfInBounds_toArray, List.set_cons_zero, List.set_cons_succ]
            exact N1_3_5.out  q1 ⟨trivial, hA1, hG1, hR1, hV1, hO1, hM1, trivial⟩
          · rintro bN W ⟨hTr, hA0, hG0, hR0, hV0, hO0, hM0, hnw, hlb, _⟩
            refine wpAnyH_ready (rs := [1]) (by kernel_rfl) (by simp) ?_
            refine AllReadyH.cons (o := { dst := some 21, op := Op.load 23 (Operand.tmp 20), type := 23, pos := "l05_catalog.go:187", after := #[{ on := 0, ground := Ground.data }], guard := none }) rfl (fun K hK => ?_) AllReadyH.nil
            have c6 := hV0.1.2 1 (by simp)
            have l6 := hV0.1.1
            simp only [List.getElem?_cons_zero, List.getElem?_cons_succ] at c6
            go_simp
            try go_wp2_with fail
            refine hK.out _ _ trivial (fun _ => ?_)
            clear hK K
            try simp only [Act.put, List.setIfInBounds_toArray, List.set_cons_zero, List.set_cons_succ]
            clear c6 l6
            exact N1_3_5_7.out bN W ⟨trivial, hA0, hG0, hR0, hV0, hO0, hM0, hnw, hlb, trivial⟩
          · rintro  W ⟨hTr, hA0, hG0, hR0, hV0, hO0, hM0, _⟩
            refine wpAnyH_ready (rs := [7]) (by kernel_rfl) (by simp) ?_
            refine AllReadyH.cons (o := { dst := some 27, op := Op.buildSlice 23 1 #[(0, Operand.tmp 26)], type := 23, pos := "l05_catalog.go:187", after := #[{ on := 6, ground := Ground.data }], guard := none }) rfl (fun K hK => ?_) AllReadyH.nil
            go_simp
            try go_wp2_with fail
            have hA1 := hA0.alloc (Obj.cells #[.string X, .int .i64 Y] 42)
            have hG1 := galloc hG0 (Obj.cells #[.string X, .int .i64 Y] 42)
            have hR1 := hR0.below ((Below.refl W.heap.size W).alloc (Nat.le_refl _) (Obj.cells #[.string X, .int .i64 Y] 42))
            have hV1 := hV0.below ((Below.refl W.heap.size W).alloc (Nat.le_refl _) (Obj.cells #[.string X, .int .i64 Y] 42))
            have hO1 := RowG.own_below hO0 ((Below.refl W.heap.size W).alloc (Nat.le_refl _) (Obj.cells #[.string X, .int .i64 Y] 42))
            have hM1 := hM0.below ((Below.refl W.heap.size W).alloc (Nat.le_refl _) (Obj.cells #[.string X, .int .i64 Y] 42))
            have hnw : ∀ j u, ([.string X, .int .i64 Y] : List Value)[j]? = some u → (W.alloc (Obj.cells #[.string X, .int .i64 Y] 42)).cell? ((⟨W.heap.size, 0, none⟩ : Addr).add j) = some u := new_cells W [.string X, .int .i64 Y] 42
            have hlb : bV < W.heap.size := hV0.1.1
            refine hK.out _ _ trivial (fun _ => ?_)
            clear hK K
            try simp only [Act.put, List.setIfInBounds_toArray, List.set_cons_zero, List.set_cons_succ]
            obtain ⟨bN, hbN⟩ : ∃ z, z = W.heap.size := ⟨_, rfl⟩
            rw [← hbN] at hnw hlb ⊢
            obtain ⟨k1, hk1⟩ : ∃ z, z = W.alloc (Obj.cells #[.string X, .int .i64 Y] 42) := ⟨_, rfl⟩
            rw [← hk1] at hnw hA1 hG1 hR1 hV1 hO1 hM1 ⊢
            exact N1_3_5_7.out bN k1 ⟨trivial, hA1, hG1, hR1, hV1, hO1, hM1, hnw, hlb, trivial⟩
          · rintro bN W ⟨hTr, hA0, hG0, hR0, hV0, hO0, hM0, hnw, hlb, _⟩
            refine wpAnyH_ready (rs := [8]) (by kernel_rfl) (by simp) ?_
            refine AllReadyH.cons (o := { dst := some 28, op := Op.call { callee := Callee.builtin Builtin.append, args := #[Operand.tmp 21, Operand.tmp 27], argTypes := #[23, 23] }, type := 23, pos := "l05_catalog.go:187", after := #[{ on := 1, ground := Ground.data }, { on := 7, ground := Ground.data }, { on := 5, ground := Ground.chain }], guard := none }) rfl (fun K hK => ?_) AllReadyH.nil
            refine DocR.step_append_own rfl _ _ 23 rfl (bV + 1) 42 j0 (.agg #[.string ⟨#[]⟩, .int .i64 0]) 2 24 Tryd.underlying23 gi gz0 gz1 gz2 rfl gsz3 _ _ _ rfl hO0 ⟨bN, 0, none⟩ 1 1 [.string X, .int .i64 Y] rfl rfl hnw (cr_one X Y) sz1 sz2 (hV0.1.1) ?_
            intro v9 w9 hown hgrow hne
            have hA1 := after_grown hA0 hgrow (fun e => by have := (hO0.lt _ e.symm).1; omega)
            have hG1 := gnewR hG0 hgrow (fun X e => by have := (hO0.lt _ e).1; omega)
            have hR1 := blkW_grown hR0 hgrow (fun e => by have := (hO0.lt _ e.symm).1; omega)
            have hV1 := blkW_grown hV0 hgrow (fun e => by have := (hO0.lt _ e.symm).1; omega)
            have hM1 := hM0.other hO0 hgrow (by decide) (by decide)
            have hO1 : w9.ownsRow (bV + 1) 42 2 v9 (i + 1) (cellsAll Cr.cells (LC (i + 1))) := by rw [HLM.out, cellsAll_snoc]; exact hown
            obtain ⟨sb, sc, rfl⟩ := own_form hO1
            clear hown hgrow hne hnw
            refine hK.out _ _ trivial (fun _ => ?_)
            clear hK K
            try simp only [Act.put, List.setIfInBounds_toArray, List.set_cons_zero, List.set_cons_succ]
            refine wpAnyH_take (i := 9) (oi := { dst := some 29, op := Op.fieldAddr 25 (Operand.tmp 3) 1, type := 0, pos := "l05_catalog.go:187", after := #[{ on := 0, ground := Ground.phase }, { on := 1, ground := Ground.phase }, { on := 2, ground := Ground.phase }, { on := 3, ground := Ground.phase }, { on := 4, ground := Ground.phase }, { on := 5, ground := Ground.phase }, { on := 6, ground := Ground.phase }, { on := 7, ground := Ground.phase }, { on := 8, ground := Ground.phase }], guard := none }) (v := ?_) rfl (by kernel_rfl) (by kernel_rfl) (by kernel_rfl) (fun _ _ _ h => h) (Or.inl ⟨by rfl, ?_⟩) (by assumption) ?_
            rotate_left
            · (intro w hSw; (try dsimp only at hSw); go_simp) <;> with_reducible rfl
            try simp only [Act.put, List.setIfInBounds_toArray, List.set_cons_zero, List.set_cons_succ]
            exact N1_3_5_7_8.out bN sb sc w9 ⟨trivial, hA1, hG1, hR1, hV1, hO1, hM1, trivial⟩
          · rintro bN sb sc W ⟨hTr, hA0, hG0, hR0, hV0, hO0, hM0, _⟩
            refine wpAnyH_ready (rs := [10]) (by kernel_rfl) (by simp) ?_
            refine AllReadyH.cons (o := { dst := none, op := Op.store 23 (Operand.tmp 29) (Operand.tmp 28), type := 0, pos := "l05_catalog.go:187", after := #[{ on := 9, ground := Ground.data }, { on := 8, ground := Ground.data }, { on := 8, ground := Ground.chain }, { on := 0, ground := Ground.phase }, { on := 1, ground := Ground.phase }, { on := 2, ground := Ground.phase }, { on := 3, ground := Ground.phase }, { on := 4, ground := Ground.phase }, { on := 5, ground := Ground.phase }, { on := 6, ground := Ground.phase }, { on := 7, ground := Ground.phase }, { on := 8, ground := Ground.phase }], guard := none }) rfl (fun K hK => ?_) AllReadyH.nil
            have c6 := hV0.1.2 1 (by simp)
            have l6 := hV0.1.1
            have f6 := hV0.2 1 (by simp)
            simp only [List.getElem?_cons_zero, List.getElem?_cons_succ] at c6
            go_simp
            try go_wp2_with fail
            have hg := RowG.grown_set W bV 1 (.slice (some ⟨sb, 0, none⟩) (i + 1) sc)
            have hA9 := after_grown hA0 hg (by simp; omega)
            have hG9 := gnewG hG0 hg (by omega)
            have hR9 := blkW_grown hR0 hg (by simp; omega)
            have hV9 := hV0.set 1 (.slice (some ⟨sb, 0, none⟩) (i + 1) sc) (by simp)
            have hO9 := own_keepG hO0 hg (by omega)
            have hM9 := hM0.far hg (by omega)
            simp only [List.set_cons_zero, List.set_cons_succ] at hV9
            refine hK.out _ _ trivial (fun _ => ?_)
            clear hK K
            try simp only [Act.put, List.setIfInBounds_toArray, List.set_cons_zero, List.set_cons_succ]
            generalize (W.setCell ⟨bV, 1, none⟩ (.slice (some ⟨sb, 0, none⟩) (i + 1) sc)) = kk at *
            refine wpAnyH_done (by kernel_rfl) ?_ _
            have HA9 := hid_intro hA9
            have HG9 := hid_intro hG9
            have HR9 := hid_intro hR9
            have HV9 := hid_intro hV9
            have HO9 := hid_intro hO9
            have HM9 := hid_intro hM9
            clear hA9 hG9 hR9 hV9 hO9 hM9 hg c6 l6 f6
            go_wp2_with fail
            go_roundw
            case rel => exact ⟨i + 1, some ⟨sb, 0, none⟩, sc, by omega, by go_num, HA9, HG9, HR9, HV9, HO9, HM9⟩
            case measure => simp [intOf]; omega
        · have hlt4 : ¬ (i : Int) < (D : Int) := by omega
          obtain rfl : i = D := by omega
          obtain ⟨⟨vl, vk⟩, _⟩ := HV.out
          have v0 : wr.cell? ⟨bV, 0, none⟩ = some (.slice ma k mc) := vk 0 (by simp)
          have v1 : wr.cell? ⟨bV, 1, none⟩ = some (.slice ca i cc) := vk 1 (by simp)
          obtain ⟨⟨rl, rk⟩, rf⟩ := HR.out
          have p0 : wr.cell? ⟨w.heap.size, 0, none⟩ = some (.slice none 0 0) := rk 0 (by simp)
          have f0 : wr.frozen? ⟨w.heap.size, 0, none⟩ = false := rf 0 (by simp)
          have p1 : wr.cell? ⟨w.heap.size, 1, none⟩ = some (.slice none 0 0) := rk 1 (by simp)
          have f1 : wr.frozen? ⟨w.heap.size, 1, none⟩ = false := rf 1 (by simp)
          have hg := StR.stL_grown w.heap.size [.slice ma k mc, .slice ca i cc] 0 wr
          have HA9 := hid_intro (after_grown HA.out hg (by simp; omega))
          have HG9 := hid_intro (gnewG HG.out hg (Nat.le_refl _))
          have HO9 := hid_intro (own_keepG HO.out hg (by omega))
          have HM9 := hid_intro (HM.out.far hg (by omega))
          simp only [StR.stL, Nat.zero_add] at HA9 HG9 HO9 HM9
          clear vk rk rf hg HA HG HR HV HO HM
          go_wp2_with fail
          refine bodyPost_ret (v := .agg #[.slice ma k mc, .slice ca i cc]) (by simp [results, Tryd.results14, go_sem, p0, p1]) rfl ⟨_, _, _, _, rfl, HM9.out.low (by omega), own_low HO9.out (by omega), HA9.out, HG9.out⟩
end CatR
end Go.Proofs.YtgaihlhoegaliaaDoor
namespace Go.Proofs.YtgaihlhoegaliaaDoor
open Go.ChangeShapes Go.WideShapes Go.ChangeAt Go.RowKit
set_option linter.unusedVariables false
namespace CatR
open OwG
open RowG (MadeG Rws cellsAll hid_intro)
open EvtR (Pt After SAfter Reads gtrans)
open DocR (BlkW)
set_option maxRecDepth 100000 in
set_option maxHeartbeats 8000000 in
theorem icr_in (s : ByteArray) (C D : Nat) (ms : List Me) (cs : List Cr) (en r : Bool) (A1 : Nat → World → Prop) (w : World) (hL : Laid w) (hs8 : s.size ≤ 8000) (eM : C = ms.length) (eC : D = cs.length)
    (hA1 : ∀ g W W', A1 g W → W.grownBy W' none → A1 g W')
    (hrd : ∀ g W, After g s (some 0) W → Calls Tryd.prog 14 #[.pointer (some ⟨g, 0, none⟩)] W fun e w' => ∃ ma mc ca cc, e = .returned (.agg #[.slice ma C mc, .slice ca D cc]) ∧ MsO W.heap.size (.slice ma C mc) ms w' ∧ w'.ownsRow W.heap.size 42 2 (.slice ca D cc) D (cellsAll Cr.cells cs) ∧ A1 g w' ∧ W.grownBy w' (some g))
    (hen : ∀ g W, A1 g W → Calls Tryd.prog 15 #[.pointer (some ⟨g, 0, none⟩)] W fun e w' => e = .returned (.bool en) ∧ Below W.heap.size W w')
    (hwr : ∀ ma mc ca cc W, Laid W → Mes ma C ms W → Crs ca D cs W → Calls Tryd.prog 16 #[.agg #[.slice ma C mc, .slice ca D cc]] W fun e w' => e = .returned (.bool r) ∧ Below W.heap.size W w') :
    Calls Tryd.prog 5 #[.string s] w fun e w' => (((en && r) = false ∧ e = .returned (.agg #[.slice none 0 0, .slice none 0 0, .int .i64 3])) ∨ ((en && r) = true ∧ ∃ ma mc ca cc, e = .returned (.agg #[.slice ma C mc, .slice ca D cc, .int .i64 0]) ∧ MsO w.heap.size (.slice ma C mc) ms w' ∧ w'.ownsRow w.heap.size 42 2 (.slice ca D cc) D (cellsAll Cr.cells cs))) ∧ Below w.heap.size w w' := by
  have HL := hid_intro hL
  have HA1 := hid_intro hA1
  have HRD := hid_intro hrd
  have HEN := hid_intro hen
  have HWR := hid_intro hwr
  have HEM := hid_intro eM
  have HEC := hid_intro eC
  have h8 : ¬ (8000 : Int) < (s.size : Int) := by omega
  clear hL hA1 hrd hen hwr eM eC
  obtain ⟨W0, hW0⟩ : ∃ W0, W0 = (w.alloc (.cells #[.slice none 0 0, .slice none 0 0, .int .i64 0] 27)).alloc (.cells #[.string s, .int .i64 0, .nilIface] 49) := ⟨_, rfl⟩
  have HB0 : Hid (Below w.heap.size w W0) := hid_intro (by rw [hW0]; exact ((Below.refl _ _).alloc (Nat.le_refl _) _).alloc (by simp) _)
  have HP0 : Hid (Pt w.heap.size 3 W0) := hid_intro (by rw [hW0]; exact (StR.pt_new w [.slice none 0 0, .slice none 0 0, .int .i64 0] 27).below ((Below.refl _ _).alloc (Nat.le_refl _) _))
  have HAF : Hid (After (w.heap.size + 1) s (some 0) W0) := hid_intro (by rw [hW0]; exact ⟨by omega, by simp, by simp [go_sem], by simp [go_sem], by simp [go_sem], by simp [go_sem], by simp [go_sem], by simp [go_sem]⟩)
  have HS0 : Hid (W0.heap.size = w.heap.size + 2) := hid_intro (by rw [hW0]; simp)
  have HW := hid_intro hW0
  clear hW0
  go_enter Tryd.func5, Tryd.ntmps5
  go_wp2_with fail
  rw [← HW.out]
  clear HW
  refine (HRD.out _ _ HAF.out).mono ?_
  rintro e w1 ⟨ma, mc, ca, cc, rfl, hM1, hC1, hA1, hg1⟩
  have HB1 : Hid (Below w.heap.size w w1) := hid_intro (HB0.out.grown hg1 HB0.out.size (fun k e => by simp only [Option.some.injEq] at e; omega))
  have HP1 : Hid (Pt w.heap.size 3 w1) := hid_intro (StR.pt_far HP0.out hg1 (by omega))
  obtain ⟨w2, hw2⟩ : ∃ z, z = w1.alloc (.cells #[.slice ma C mc, .slice ca D cc] 25) := ⟨_, rfl⟩
  have al : Below w1.heap.size w1 w2 := by rw [hw2]; exact (Below.refl _ _).alloc (Nat.le_refl _) _
  have HV2 : Hid (Blk w1.heap.size [.slice ma C mc, .slice ca D cc] w2) := hid_intro (by rw [hw2]; exact Blk.new w1 [.slice ma C mc, .slice ca D cc] 25)
  have HB2 := hid_intro (HB1.out.trans (al.mono HB1.out.size))
  have HP2 := hid_intro (HP1.out.below al)
  have HM2 := hid_intro (hM1.below al)
  have HC2 := hid_intro (RowG.own_below hC1 al)
  have HA2 : Hid (A1 (w.heap.size + 1) w2) := hid_intro (HA1.out _ _ _ hA1 (EvtR.rgrown al none))
  have HLO : Hid (w.heap.size < W0.heap.size) := hid_intro (by have := HS0.out; omega)
  have HW2 := hid_intro hw2
  obtain ⟨bV, hbV⟩ : ∃ z, z = w1.heap.size := ⟨_, rfl⟩
  rw [← hbV] at HV2
  have HBV := hid_intro hbV
  clear hM1 hC1 hA1 hg1 al hw2 hbV HB0 HP0 HAF HB1 HP1 HRD
  go_wp2_with fail
  rw [← HW2.out, ← HBV.out]
  clear HW2 HBV
  refine (HEN.out _ _ HA2.out).mono ?_
  rintro e w3 ⟨rfl, hb3⟩
  have HB3 := hid_intro (HB2.out.trans (hb3.mono HB2.out.size))
  have HP3 := hid_intro (HP2.out.below hb3)
  have HM3 := hid_intro (HM2.out.below hb3)
  have HC3 := hid_intro (RowG.own_below HC2.out hb3)
  have HV3 := hid_intro (HV2.out.below hb3)
  clear hb3 HB2 HP2 HM2 HC2 HA2 HV2 HEN HA1
  cases en
  · have hp9 := HP3.out
    have hl9 := hp9.lt
    obtain ⟨ov0, r0⟩ := hp9.has 0 (by omega)
    have f0 := hp9.free 0 (by omega)
    obtain ⟨ov1, r1⟩ := hp9.has 1 (by omega)
    have f1 := hp9.free 1 (by omega)
    obtain ⟨ov2, r2⟩ := hp9.has 2 (by omega)
    have f2 := hp9.free 2 (by omega)
    have hgf := StR.stL_grown w.heap.size [.slice none 0 0, .slice none 0 0, .int .i64 3] 0 w3
    have HBF := hid_intro (HB3.out.grown hgf HB3.out.size (fun k e => by simp only [Option.some.injEq] at e; omega))
    simp only [StR.stL, Nat.zero_add, Nat.reduceAdd] at HBF
    clear hgf hp9
    go_wp2_with fail
    refine bodyPost_ret (v := .agg #[.slice none 0 0, .slice none 0 0, .int .i64 3]) (by simp [results, Tryd.results5, go_sem, r0, r1, r2]) rfl ⟨.inl ⟨rfl, rfl⟩, HBF.out⟩
  have v0 : w3.cell? ⟨bV, 0, none⟩ = some (.slice ma C mc) := HV3.out.2 0 (by simp)
  have v1 : w3.cell? ⟨bV, 1, none⟩ = some (.slice ca D cc) := HV3.out.2 1 (by simp)
  have vl := HV3.out.1
  have HMS : Hid (Mes ma C ms w3) := hid_intro (by
    obtain ⟨ao, cap, e, hm⟩ := HM3.out.mes
    rw [← HEM.out] at e hm
    cases e
    exact hm)
  go_wp2_with fail
  refine (HWR.out ma mc ca cc _ (HL.out.below HB3.out) HMS.out (own_crs HC3.out HEC.out)).mono ?_
  rintro e w4 ⟨rfl, hb4⟩
  have HB4 := hid_intro (HB3.out.trans (hb4.mono HB3.out.size))
  have HP4 := hid_intro (HP3.out.below hb4)
  have HM4 := hid_intro (HM3.out.below hb4)
  have HC4 := hid_intro (RowG.own_below HC3.out hb4)
  have HV4 := hid_intro (HV3.out.below hb4)
  clear hb4 HB3 HP3 HM3 HC3 HV3 HWR HMS v0 v1 vl
  cases r
  · have hp9 := HP4.out
    have hl9 := hp9.lt
    obtain ⟨ov0, r0⟩ := hp9.has 0 (by omega)
    have f0 := hp9.free 0 (by omega)
    obtain ⟨ov1, r1⟩ := hp9.has 1 (by omega)
    have f1 := hp9.free 1 (by omega)
    obtain ⟨ov2, r2⟩ := hp9.has 2 (by omega)
    have f2 := hp9.free 2 (by omega)
    have hgf := StR.stL_grown w.heap.size [.slice none 0 0, .slice none 0 0, .int .i64 3] 0 w4
    have HBF := hid_intro (HB4.out.grown hgf HB4.out.size (fun k e => by simp only [Option.some.injEq] at e; omega))
    simp only [StR.stL, Nat.zero_add, Nat.reduceAdd] at HBF
    clear hgf hp9
    go_wp2_with fail
    refine bodyPost_ret (v := .agg #[.slice none 0 0, .slice none 0 0, .int .i64 3]) (by simp [results, Tryd.results5, go_sem, r0, r1, r2]) rfl ⟨.inl ⟨rfl, rfl⟩, HBF.out⟩
  have v0 : w4.cell? ⟨bV, 0, none⟩ = some (.slice ma C mc) := HV4.out.2 0 (by simp)
  have v1 : w4.cell? ⟨bV, 1, none⟩ = some (.slice ca D cc) := HV4.out.2 1 (by simp)
  have vl := HV4.out.1
  have hp9 := HP4.out
  have hl9 := hp9.lt
  obtain ⟨ov0, r0⟩ := hp9.has 0 (by omega)
  have f0 := hp9.free 0 (by omega)
  obtain ⟨ov1, r1⟩ := hp9.has 1 (by omega)
  have f1 := hp9.free 1 (by omega)
  obtain ⟨ov2, r2⟩ := hp9.has 2 (by omega)
  have f2 := hp9.free 2 (by omega)
  have hgf := StR.stL_grown w.heap.size [.slice ma C mc, .slice ca D cc, .int .i64 0] 0 w4
  have HBF := hid_intro (HB4.out.grown hgf HB4.out.size (fun k e => by simp only [Option.some.injEq] at e; omega))
  have HMF := hid_intro (HM4.out.far hgf HLO.out)
  have HCF := hid_intro (own_keepG HC4.out hgf HLO.out)
  simp only [StR.stL, Nat.zero_add, Nat.reduceAdd] at HBF HMF HCF
  clear hgf hp9
  go_wp2_with fail
  refine bodyPost_ret (v := .agg #[.slice ma C mc, .slice ca D cc, .int .i64 0]) (by simp [results, Tryd.results5, go_sem, r0, r1, r2]) rfl ⟨.inr ⟨rfl, ma, mc, ca, cc, rfl, HMF.out.low (Nat.le_of_lt HLO.out), own_low HCF.out (Nat.le_of_lt HLO.out)⟩, HBF.out⟩
end CatR
end Go.Proofs.YtgaihlhoegaliaaDoor
namespace Go.Proofs.YtgaihlhoegaliaaDoor
open Go.ChangeShapes Go.WideShapes Go.ChangeAt Go.RowKit
set_option linter.unusedVariables false
namespace CatR
open OwG
open RowG (MadeG Rws cellsAll hid_intro)
open EvtR (Pt After SAfter Reads gtrans)
open DocR (BlkW)
/-- What one call of the model's reader leaves. -/
abbrev SRd (f g : Nat) (s : ByteArray) (o o' : Option Nat) (v : Value) : Prop := ∀ W, SAfter g s o W → Calls Tryd.prog f #[.pointer (some ⟨g, 0, none⟩)] W fun e w' => e = .returned v ∧ SAfter g s o' w' ∧ W.grownBy w' (some g)
abbrev SMn (M g : Nat) (s : ByteArray) (o o' : Option Nat) (n : Nat) : Prop := ∀ W, SAfter g s o W → Calls Tryd.prog 9 #[.pointer (some ⟨g, 0, none⟩), .int .i64 M] W fun e w' => e = .returned (.int .i64 (n : Nat)) ∧ SAfter g s o' w' ∧ W.grownBy w' (some g)
theorem exit_of {P : Nat → Option Nat} (hN : ∀ k, P k = none → P (k + 1) = none) {k C : Nat} (hk : k ≤ C) : (k < C ∧ P k ≠ none) ∨ (P k = P C ∧ (P C ≠ none → k = C)) := by
  by_cases q : k < C
  · by_cases q2 : P k = none
    · have := stay hN q2 (C - k)
      rw [show k + (C - k) = C by omega] at this
      exact .inr ⟨q2.trans this.symm, fun h => absurd this h⟩
    · exact .inl ⟨q, q2⟩
  · obtain rfl : k = C := by omega
    exact .inr ⟨rfl, fun _ => rfl⟩
theorem exit_two {P : Nat → Option Nat} {k C : Nat} (heq : P k = P C) (hall : P C ≠ none → k = C) (hk : k ≤ C) : (¬ (0 : Int) < (C : Int) - (k : Int)) ∨ ((0 : Int) < (C : Int) - (k : Int) ∧ decide (P k = none) = true) := by
  by_cases q : k < C
  · refine .inr ⟨by omega, decide_eq_true ?_⟩
    rcases h9 : P C with _ | p
    · rw [heq, h9]
    · have := hall (by rw [h9]; simp)
      omega
  · exact .inl (by omega)
/-- What the reading of a meter hands back. -/
def SmP (g : Nat) (s a : ByteArray) (ag : Int) (wh : Bool) (fr le : Int) (C : Nat) (PH : Nat → Option Nat) (LH : Nat → List Ti) (w : World) (e : Ending) (w' : World) : Prop := ∃ n ta tc, (PH C ≠ none → n = C) ∧ e = .returned (.agg #[.string a, .int .i64 ag, .bool wh, .int .i64 fr, .int .i64 le, .slice ta n tc]) ∧ w'.ownsRow w.heap.size 57 2 (.slice ta n tc) n (cellsAll Ti.cells (LH n)) ∧ SAfter g s (PH C) w' ∧ w.grownBy w' (some g)
set_option maxRecDepth 100000 in
set_option maxHeartbeats 16000000 in
theorem sme_in (g : Nat) (s : ByteArray) (o0 o1 o2 o3 o4 o5 : Option Nat) (a : ByteArray) (ag fn fr le : Int) (wh : Bool) (C : Nat) (PH : Nat → Option Nat) (LH : Nat → List Ti) (hh ss : Nat → Int) (w : World) (hA : SAfter g s o0 w)
    (r1 : SRd 11 g s o0 o1 (.string a)) (r2 : SRd 12 g s o1 o2 (.int .i64 ag)) (r3 : SRd 12 g s o2 o3 (.int .i64 fn)) (r4 : SRd 12 g s o3 o4 (.int .i64 fr)) (r5 : SRd 12 g s o4 o5 (.int .i64 le))
    (rc : SMn 5 g s o5 (PH 0) C) (rh : ∀ i, ∃ om, SRd 12 g s (PH i) om (.int .i64 (hh i)) ∧ SRd 12 g s om (PH (i + 1)) (.int .i64 (ss i)))
    (hNH : ∀ i, PH i = none → PH (i + 1) = none) (hwh : wh = decide (fn = 1)) (hC : C ≤ 5) (hH0 : LH 0 = []) (hHM : ∀ i, LH (i + 1) = LH i ++ [⟨hh i, ss i⟩]) :
    Calls Tryd.prog 10 #[.pointer (some ⟨g, 0, none⟩)] w fun e w' => SmP g s a ag wh fr le C PH LH w e w' := by
  obtain ⟨j0, gi, gz0, gz1, gz2⟩ := info_parts infoTi
  have R1 := hid_intro r1
  have R2 := hid_intro r2
  have R3 := hid_intro r3
  have R4 := hid_intro r4
  have R5 := hid_intro r5
  have RCC := hid_intro rc
  have RH := hid_intro rh
  have HNH := hid_intro hNH
  have HH0 := hid_intro hH0
  have HHM := hid_intro hHM
  have hgw : g < w.heap.size := hA.lt
  obtain ⟨W0, hW0⟩ : ∃ W0, W0 = w.alloc (.cells #[.string ⟨#[]⟩, .int .i64 0, .bool false, .int .i64 0, .int .i64 0, .slice none 0 0] 38) := ⟨_, rfl⟩
  have HA : Hid (SAfter g s o0 W0) := hid_intro (by rw [hW0]; exact satt hA ((Below.refl _ _).alloc (Nat.le_refl _) _))
  have HG : Hid (w.grownBy W0 (some g)) := hid_intro (by rw [hW0]; exact World.grownBy_alloc w _ _)
  have HR : Hid (BlkW w.heap.size [.string ⟨#[]⟩, .int .i64 0, .bool false, .int .i64 0, .int .i64 0, .slice none 0 0] W0) := hid_intro (by rw [hW0]; exact BlkW.new w [.string ⟨#[]⟩, .int .i64 0, .bool false, .int .i64 0, .int .i64 0, .slice none 0 0] 38)
  have HW := hid_intro hW0
  clear r1 r2 r3 r4 r5 rc rh hNH hH0 hHM hA hW0
  have hF : (fn = 1 ∧ wh = true) ∨ (¬ fn = 1 ∧ wh = false) := by
    by_cases h : fn = 1
    · exact .inl ⟨h, by rw [hwh]; exact decide_eq_true h⟩
    · exact .inr ⟨h, by rw [hwh]; exact decide_eq_false h⟩
  clear hwh
  rcases hF with ⟨rfl, rfl⟩ | ⟨hfn, rfl⟩
  · go_enter Tryd.func10, Tryd.ntmps10
    go_wp2_with fail
    rw [← HW.out]
    clear HW
    refine (R1.out _ HA.out).mono ?_
    rintro e q1 ⟨rfl, hA, hq⟩
    replace HA := hid_intro hA
    replace HG := hid_intro (gtrans HG.out hq)
    replace HR := hid_intro (blkW_grown HR.out hq (by simp; omega))
    clear hA hq
    obtain ⟨wA, hwA⟩ : ∃ z, z = q1.alloc (.cells #[.string a, .int .i64 0, .bool false, .int .i64 0, .int .i64 0, .slice none 0 0] 38) := ⟨_, rfl⟩
    have al : Below q1.heap.size q1 wA := by rw [hwA]; exact (Below.refl _ _).alloc (Nat.le_refl _) _
    have HV : Hid (BlkW q1.heap.size [.string a, .int .i64 0, .bool false, .int .i64 0, .int .i64 0, .slice none 0 0] wA) := hid_intro (by rw [hwA]; exact BlkW.new q1 [.string a, .int .i64 0, .bool false, .int .i64 0, .int .i64 0, .slice none 0 0] 38)
    have hlo : w.heap.size < q1.heap.size := HR.out.1.1
    replace HA := hid_intro (satt HA.out al)
    replace HG := hid_intro (gtrans HG.out (EvtR.rgrown al _))
    replace HR := hid_intro (HR.out.below al)
    have HW := hid_intro hwA
    obtain ⟨bV, hbV⟩ : ∃ z, z = q1.heap.size := ⟨_, rfl⟩
    rw [← hbV] at HV hlo
    have HBV := hid_intro hbV
    clear hwA hbV al
    go_wp2_with fail
    rw [← HW.out, ← HBV.out]
    clear HW HBV
    refine (R2.out _ HA.out).mono ?_
    rintro e q2 ⟨rfl, hA, hq⟩
    replace HA := hid_intro hA
    replace HG := hid_intro (gtrans HG.out hq)
    replace HV := hid_intro (blkW_grown HV.out hq (by simp; omega))
    replace HR := hid_intro (blkW_grown HR.out hq (by simp; omega))
    clear hA hq
    have hl := HV.out.1.1
    have hc := HV.out.1.2 1 (by simp)
    have hf := HV.out.2 1 (by simp)
    simp only [List.getElem?_cons_zero, List.getElem?_cons_succ] at hc
    have hgs := RowG.grown_set q2 bV 1 (.int .i64 ag)
    replace HV := hid_intro (HV.out.set 1 (.int .i64 ag) (by simp))
    replace HA := hid_intro (HA.out.grown hgs (by simp; omega))
    replace HG := hid_intro (gnewG HG.out hgs (by omega))
    replace HR := hid_intro (blkW_grown HR.out hgs (by simp; omega))
    simp only [List.set_cons_zero, List.set_cons_succ] at HV
    obtain ⟨wz0, hwz⟩ : ∃ z, z = q2.setCell ⟨bV, 1, none⟩ (.int .i64 ag) := ⟨_, rfl⟩
    rw [← hwz] at HA HG HV HR
    have HW := hid_intro hwz
    clear hwz hgs
    go_wp2_with fail
    rw [← HW.out]
    clear HW hl hc hf
    refine (R3.out _ HA.out).mono ?_
    rintro e q3 ⟨rfl, hA, hq⟩
    replace HA := hid_intro hA
    replace HG := hid_intro (gtrans HG.out hq)
    replace HV := hid_intro (blkW_grown HV.out hq (by simp; omega))
    replace HR := hid_intro (blkW_grown HR.out hq (by simp; omega))
    clear hA hq
    have hl := HV.out.1.1
    have hc := HV.out.1.2 2 (by simp)
    have hf := HV.out.2 2 (by simp)
    simp only [List.getElem?_cons_zero, List.getElem?_cons_succ] at hc
    have hgs := RowG.grown_set q3 bV 2 (.bool true)
    replace HV := hid_intro (HV.out.set 2 (.bool true) (by simp))
    replace HA := hid_intro (HA.out.grown hgs (by simp; omega))
    replace HG := hid_intro (gnewG HG.out hgs (by omega))
    replace HR := hid_intro (blkW_grown HR.out hgs (by simp; omega))
    simp only [List.set_cons_zero, List.set_cons_succ] at HV
    obtain ⟨wz1, hwz⟩ : ∃ z, z = q3.setCell ⟨bV, 2, none⟩ (.bool true) := ⟨_, rfl⟩
    rw [← hwz] at HA HG HV HR
    have HW := hid_intro hwz
    clear hwz hgs
    go_wp2_with fail
    rw [← HW.out]
    clear HW hl hc hf
    refine (R4.out _ HA.out).mono ?_
    rintro e q4 ⟨rfl, hA, hq⟩
    replace HA := hid_intro hA
    replace HG := hid_intro (gtrans HG.out hq)
    replace HV := hid_intro (blkW_grown HV.out hq (by simp; omega))
    replace HR := hid_intro (blkW_grown HR.out hq (by simp; omega))
    clear hA hq
    have hl := HV.out.1.1
    have hc := HV.out.1.2 3 (by simp)
    have hf := HV.out.2 3 (by simp)
    simp only [List.getElem?_cons_zero, List.getElem?_cons_succ] at hc
    have hgs := RowG.grown_set q4 bV 3 (.int .i64 fr)
    replace HV := hid_intro (HV.out.set 3 (.int .i64 fr) (by simp))
    replace HA := hid_intro (HA.out.grown hgs (by simp; omega))
    replace HG := hid_intro (gnewG HG.out hgs (by omega))
    replace HR := hid_intro (blkW_grown HR.out hgs (by simp; omega))
    simp only [List.set_cons_zero, List.set_cons_succ] at HV
    obtain ⟨wz2, hwz⟩ : ∃ z, z = q4.setCell ⟨bV, 3, none⟩ (.int .i64 fr) := ⟨_, rfl⟩
    rw [← hwz] at HA HG HV HR
    have HW := hid_intro hwz
    clear hwz hgs
    go_wp2_with fail
    rw [← HW.out]
    clear HW hl hc hf
    refine (R5.out _ HA.out).mono ?_
    rintro e q5 ⟨rfl, hA, hq⟩
    replace HA := hid_intro hA
    replace HG := hid_intro (gtrans HG.out hq)
    replace HV := hid_intro (blkW_grown HV.out hq (by simp; omega))
    replace HR := hid_intro (blkW_grown HR.out hq (by simp; omega))
    clear hA hq
    have hl := HV.out.1.1
    have hc := HV.out.1.2 4 (by simp)
    have hf := HV.out.2 4 (by simp)
    simp only [List.getElem?_cons_zero, List.getElem?_cons_succ] at hc
    have hgs := RowG.grown_set q5 bV 4 (.int .i64 le)
    replace HV := hid_intro (HV.out.set 4 (.int .i64 le) (by simp))
    replace HA := hid_intro (HA.out.grown hgs (by simp; omega))
    replace HG := hid_intro (gnewG HG.out hgs (by omega))
    replace HR := hid_intro (blkW_grown HR.out hgs (by simp; omega))
    simp only [List.set_cons_zero, List.set_cons_succ] at HV
    obtain ⟨wz3, hwz⟩ : ∃ z, z = q5.setCell ⟨bV, 4, none⟩ (.int .i64 le) := ⟨_, rfl⟩
    rw [← hwz] at HA HG HV HR
    have HW := hid_intro hwz
    clear hwz hgs
    go_wp2_with fail
    rw [← HW.out]
    clear HW hl hc hf
    refine (RCC.out _ HA.out).mono ?_
    rintro e wC ⟨rfl, hA, hq⟩
    replace HA := hid_intro hA
    replace HG := hid_intro (gtrans HG.out hq)
    replace HV := hid_intro (blkW_grown HV.out hq (by simp; omega))
    replace HR := hid_intro (blkW_grown HR.out hq (by simp; omega))
    clear hA hq
    go_wp2_with fail
    go_loopw [4] (fun z wx => ∃ (i : Nat) (ha : Option Addr) (hc : Nat), i ≤ C ∧ z = .int .i64 ((C : Int) - (i : Int)) ∧ Hid (SAfter g s (PH i) wx) ∧ Hid (w.grownBy wx (some g)) ∧ Hid (BlkW bV [.string a, .int .i64 ag, .bool true, .int .i64 fr, .int .i64 le, .slice ha i hc] wx) ∧ Hid (wx.ownsRow (bV + 1) 57 2 (.slice ha i hc) i (cellsAll Ti.cells (LH i))) ∧ Hid (BlkW w.heap.size [.string ⟨#[]⟩, .int .i64 0, .bool false, .int .i64 0, .int .i64 0, .slice none 0 0] wx)) (fun z _ => (intOf z).toNat)
    case atStart => exact ⟨0, none, 0, by omega, by simp, HA, HG, HV, hid_intro (by rw [HH0.out]; exact World.ownsRow_nil _ _ _ _), HR⟩
    case round =>
      clear HA HG HV HR
      obtain ⟨i, ha, hc, hki, rfl, HA, HG, HV, HO, HR⟩ := hrel
      obtain ⟨pp, hSR⟩ := HA.out.open
      obtain ⟨gl, g0, g1, g2, gf0, gf1, gf2⟩ := hSR
      rcases exit_of HNH.out hki with ⟨hlt3, hno3⟩ | ⟨heq3, hall3⟩
      · have hlt4 : (0 : Int) < (C : Int) - (i : Int) := by omega
        rw [decide_eq_false hno3] at g2
        obtain ⟨om, rd1, rd2⟩ := RH.out i
        have RD1 := hid_intro rd1
        have RD2 := hid_intro rd2
        clear rd1 rd2 hno3
        have HLN := hid_intro (HHM.out i)
        generalize hh i = X at *
        generalize ss i = Y at *
        go_wp2_with fail
        clear gl g0 g1 g2 gf0 gf1 gf2
        refine (RD1.out _ HA.out).mono ?_
        rintro e u1 ⟨rfl, hA, hq⟩
        replace HA := hid_intro hA
        replace HG := hid_intro (gtrans HG.out hq)
        replace HV := hid_intro (blkW_grown HV.out hq (by simp; omega))
        replace HO := hid_intro (own_keepG HO.out hq (by omega))
        replace HR := hid_intro (blkW_grown HR.out hq (by simp; omega))
        clear hA hq
        obtain ⟨u2, hu2⟩ : ∃ z, z = u1.alloc (.cells #[.int .i64 X, .int .i64 0] 57) := ⟨_, rfl⟩
        have al : Below u1.heap.size u1 u2 := by rw [hu2]; exact (Below.refl _ _).alloc (Nat.le_refl _) _
        have HQ : Hid (BlkW u1.heap.size [.int .i64 X, .int .i64 0] u2) := hid_intro (by rw [hu2]; exact BlkW.new u1 [.int .i64 X, .int .i64 0] 57)
        have hlq : bV < u1.heap.size := HV.out.1.1
        have HQO : Hid (∀ b, (.slice ha i hc : Value).ownBlock = some b → b < u1.heap.size) := hid_intro (fun b hb => (HO.out.lt b hb).2)
        have hlr : w.heap.size < bV := by omega
        replace HA := hid_intro (satt HA.out al)
        replace HG := hid_intro (gtrans HG.out (EvtR.rgrown al _))
        replace HV := hid_intro (HV.out.below al)
        replace HO := hid_intro (RowG.own_below HO.out al)
        replace HR := hid_intro (HR.out.below al)
        have HW := hid_intro hu2
        obtain ⟨bQ, hbQ⟩ : ∃ z, z = u1.heap.size := ⟨_, rfl⟩
        rw [← hbQ] at HQ hlq HQO
        have HBQ := hid_intro hbQ
        clear hu2 hbQ al
        go_wp2_with fail
        rw [← HW.out, ← HBQ.out]
        clear HW
        refine (RD2.out _ HA.out).mono ?_
        rintro e u3 ⟨rfl, hA, hq⟩
        replace HQ := hid_intro (blkW_grown HQ.out hq (by simp; omega))
        replace HA := hid_intro hA
        replace HG := hid_intro (gtrans HG.out hq)
        replace HV := hid_intro (blkW_grown HV.out hq (by simp; omega))
        replace HO := hid_intro (own_keepG HO.out hq (by omega))
        replace HR := hid_intro (blkW_grown HR.out hq (by simp; omega))
        clear hA hq
        have hl := HQ.out.1.1
        have vl := HV.out.1.1
        have v7 := HV.out.1.2 5 (by simp)
        have f7 := HV.out.2 5 (by simp)
        have hqv : bQ ≠ bV := by omega
        have hvq : bV ≠ bQ := by omega
        have hcc := HQ.out.1.2 1 (by simp)
        have hc0 := HQ.out.1.2 0 (by simp)
        have hff := HQ.out.2 1 (by simp)
        simp only [List.getElem?_cons_zero, List.getElem?_cons_succ] at hcc hc0 v7
        have hgs := RowG.grown_set u3 bQ 1 (.int .i64 Y)
        replace HA := hid_intro (HA.out.grown hgs (by simp; omega))
        replace HG := hid_intro (gnewG HG.out hgs (by omega))
        replace HV := hid_intro (blkW_grown HV.out hgs (by simp; omega))
        replace HO := hid_intro (own_keepO HO.out hgs (fun b hb => by have := HQO.out b hb; simp; omega))
        replace HR := hid_intro (blkW_grown HR.out hgs (by simp; omega))
        have hnw : ∀ j u, ([.int .i64 X, .int .i64 Y] : List Value)[j]? = some u → ((u3.setCell ⟨bQ, 1, none⟩ (.int .i64 Y)).alloc (.cells #[.int .i64 X, .int .i64 Y] 57)).cell? ((⟨u3.heap.size, 0, none⟩ : Addr).add j) = some u := by
          have h := new_cells (u3.setCell ⟨bQ, 1, none⟩ (.int .i64 Y)) [.int .i64 X, .int .i64 Y] 57
          simpa using h
        have HAL2 := hid_intro (fun b (hb : (.slice ha i hc : Value).ownBlock = some b) => (HO.out.lt b hb).1)
        have hbv : bV + 1 ≤ u3.heap.size := by omega
        clear hgs
        go_wp2_with (at_builtin; refine wpList_append_own _ rfl _ _ 36 rfl (bV + 1) 57 j0 (.agg #[.int .i64 0, .int .i64 0]) 2 16 Tryd.underlying36 gi gz0 gz1 gz2 rfl (by decide) _ _ _ rfl (HO.out.alloc _) ⟨u3.heap.size, 0, none⟩ 1 1 [.int .i64 X, .int .i64 Y] rfl rfl hnw (ti_one _ _) ?d3 ?d4 ?d5 ?_)
        case d3 => unfold maxLen; omega
        case d4 => omega
        case d5 => simp; omega
        intro v9 w9 hown hgrow hne
        have hO9 : w9.ownsRow (bV + 1) 57 2 v9 (i + 1) (cellsAll Ti.cells (LH (i + 1))) := by rw [HLN.out, cellsAll_snoc]; exact hown
        have al := ((Below.refl _ (u3.setCell ⟨bQ, 1, none⟩ (.int .i64 Y))).alloc (Nat.le_refl _) (.cells #[.int .i64 X, .int .i64 Y] 57))
        replace HR := hid_intro (blkW_grown (HR.out.below al) hgrow (fun e => by have := HAL2.out _ e.symm; omega))
        replace HA := hid_intro ((satt HA.out al).grown hgrow (fun e => by have := HAL2.out _ e.symm; omega))
        replace HG := hid_intro (gnewR (gtrans HG.out (EvtR.rgrown al _)) hgrow (fun X e => by have := HAL2.out _ e; omega))
        replace HV := hid_intro (blkW_grown (HV.out.below al) hgrow (fun e => by have := HAL2.out _ e.symm; omega))
        obtain ⟨sb, sc, rfl⟩ := own_form hO9
        have HO9 := hid_intro hO9
        clear hown hgrow hne hnw hO9 al hl hcc hc0 hff vl v7 f7 HO HQ HAL2 HBQ
        have vl := HV.out.1.1
        have v7 := HV.out.1.2 5 (by simp)
        have f7 := HV.out.2 5 (by simp)
        simp only [List.getElem?_cons_zero, List.getElem?_cons_succ] at v7
        have hgs := RowG.grown_set w9 bV 5 (.slice (some ⟨sb, 0, none⟩) (i + 1) sc)
        have HA9 := hid_intro (HA.out.grown hgs (by simp; omega))
        have HG9 := hid_intro (gnewG HG.out hgs (by omega))
        have HV9 := hid_intro (HV.out.set 5 (.slice (some ⟨sb, 0, none⟩) (i + 1) sc) (by simp))
        have HO8 := hid_intro (own_keepG HO9.out hgs (by omega))
        have HR9 := hid_intro (blkW_grown HR.out hgs (by simp; omega))
        simp only [List.set_cons_zero, List.set_cons_succ] at HV9
        clear hgs HA HG HV HO9 HR
        go_wp2_with fail
        go_roundw
        case rel => exact ⟨i + 1, some ⟨sb, 0, none⟩, sc, by omega, by go_num, HA9, HG9, HV9, HO8, HR9⟩
        case measure => simp [intOf]; omega
      · rcases exit_two heq3 hall3 hki with hex3 | ⟨hex3, hd3⟩
        · have HNC : Hid (PH C ≠ none → i = C) := hid_intro hall3
          replace HA : Hid (SAfter g s (PH C) wr) := hid_intro (by rw [← heq3]; exact HA.out)
          clear heq3 hall3
          obtain ⟨⟨vl, vk⟩, _⟩ := HV.out
          have v0 : wr.cell? ⟨bV, 0, none⟩ = some (.string a) := vk 0 (by simp)
          have v1 : wr.cell? ⟨bV, 1, none⟩ = some (.int .i64 ag) := vk 1 (by simp)
          have v2 : wr.cell? ⟨bV, 2, none⟩ = some (.bool true) := vk 2 (by simp)
          have v3 : wr.cell? ⟨bV, 3, none⟩ = some (.int .i64 fr) := vk 3 (by simp)
          have v4 : wr.cell? ⟨bV, 4, none⟩ = some (.int .i64 le) := vk 4 (by simp)
          have v5 : wr.cell? ⟨bV, 5, none⟩ = some (.slice ha i hc) := vk 5 (by simp)
          obtain ⟨⟨rl, rk⟩, rf⟩ := HR.out
          have p0 : wr.cell? ⟨w.heap.size, 0, none⟩ = some (.string ⟨#[]⟩) := rk 0 (by simp)
          have f0 : wr.frozen? ⟨w.heap.size, 0, none⟩ = false := rf 0 (by simp)
          have p1 : wr.cell? ⟨w.heap.size, 1, none⟩ = some (.int .i64 0) := rk 1 (by simp)
          have f1 : wr.frozen? ⟨w.heap.size, 1, none⟩ = false := rf 1 (by simp)
          have p2 : wr.cell? ⟨w.heap.size, 2, none⟩ = some (.bool false) := rk 2 (by simp)
          have f2 : wr.frozen? ⟨w.heap.size, 2, none⟩ = false := rf 2 (by simp)
          have p3 : wr.cell? ⟨w.heap.size, 3, none⟩ = some (.int .i64 0) := rk 3 (by simp)
          have f3 : wr.frozen? ⟨w.heap.size, 3, none⟩ = false := rf 3 (by simp)
          have p4 : wr.cell? ⟨w.heap.size, 4, none⟩ = some (.int .i64 0) := rk 4 (by simp)
          have f4 : wr.frozen? ⟨w.heap.size, 4, none⟩ = false := rf 4 (by simp)
          have p5 : wr.cell? ⟨w.heap.size, 5, none⟩ = some (.slice none 0 0) := rk 5 (by simp)
          have f5 : wr.frozen? ⟨w.heap.size, 5, none⟩ = false := rf 5 (by simp)
          have hg := StR.stL_grown w.heap.size [.string a, .int .i64 ag, .bool true, .int .i64 fr, .int .i64 le, .slice ha i hc] 0 wr
          have HA9 := hid_intro (HA.out.grown hg (by simp; omega))
          have HG9 := hid_intro (gnewG HG.out hg (Nat.le_refl _))
          have HO9 := hid_intro (own_keepG HO.out hg (by omega))
          simp only [StR.stL, Nat.zero_add, Nat.reduceAdd] at HA9 HG9 HO9
          clear vk rk rf hg HA HG HR HV HO
          go_wp2_with fail
          refine bodyPost_ret (v := .agg #[.string a, .int .i64 ag, .bool true, .int .i64 fr, .int .i64 le, .slice ha i hc]) (by simp [results, Tryd.results10, go_sem, p0, p1, p2, p3, p4, p5]) rfl (show SmP g s a ag _ fr le C PH LH w _ _ from ⟨_, _, _, HNC.out, rfl, own_low HO9.out (by omega), HA9.out, HG9.out⟩)
        · rw [hd3] at g2
          have HNC : Hid (PH C ≠ none → i = C) := hid_intro hall3
          replace HA : Hid (SAfter g s (PH C) wr) := hid_intro (by rw [← heq3]; exact HA.out)
          clear heq3 hall3 hd3
          obtain ⟨⟨vl, vk⟩, _⟩ := HV.out
          have v0 : wr.cell? ⟨bV, 0, none⟩ = some (.string a) := vk 0 (by simp)
          have v1 : wr.cell? ⟨bV, 1, none⟩ = some (.int .i64 ag) := vk 1 (by simp)
          have v2 : wr.cell? ⟨bV, 2, none⟩ = some (.bool true) := vk 2 (by simp)
          have v3 : wr.cell? ⟨bV, 3, none⟩ = some (.int .i64 fr) := vk 3 (by simp)
          have v4 : wr.cell? ⟨bV, 4, none⟩ = some (.int .i64 le) := vk 4 (by simp)
          have v5 : wr.cell? ⟨bV, 5, none⟩ = some (.slice ha i hc) := vk 5 (by simp)
          obtain ⟨⟨rl, rk⟩, rf⟩ := HR.out
          have p0 : wr.cell? ⟨w.heap.size, 0, none⟩ = some (.string ⟨#[]⟩) := rk 0 (by simp)
          have f0 : wr.frozen? ⟨w.heap.size, 0, none⟩ = false := rf 0 (by simp)
          have p1 : wr.cell? ⟨w.heap.size, 1, none⟩ = some (.int .i64 0) := rk 1 (by simp)
          have f1 : wr.frozen? ⟨w.heap.size, 1, none⟩ = false := rf 1 (by simp)
          have p2 : wr.cell? ⟨w.heap.size, 2, none⟩ = some (.bool false) := rk 2 (by simp)
          have f2 : wr.frozen? ⟨w.heap.size, 2, none⟩ = false := rf 2 (by simp)
          have p3 : wr.cell? ⟨w.heap.size, 3, none⟩ = some (.int .i64 0) := rk 3 (by simp)
          have f3 : wr.frozen? ⟨w.heap.size, 3, none⟩ = false := rf 3 (by simp)
          have p4 : wr.cell? ⟨w.heap.size, 4, none⟩ = some (.int .i64 0) := rk 4 (by simp)
          have f4 : wr.frozen? ⟨w.heap.size, 4, none⟩ = false := rf 4 (by simp)
          have p5 : wr.cell? ⟨w.heap.size, 5, none⟩ = some (.slice none 0 0) := rk 5 (by simp)
          have f5 : wr.frozen? ⟨w.heap.size, 5, none⟩ = false := rf 5 (by simp)
          have hg := StR.stL_grown w.heap.size [.string a, .int .i64 ag, .bool true, .int .i64 fr, .int .i64 le, .slice ha i hc] 0 wr
          have HA9 := hid_intro (HA.out.grown hg (by simp; omega))
          have HG9 := hid_intro (gnewG HG.out hg (Nat.le_refl _))
          have HO9 := hid_intro (own_keepG HO.out hg (by omega))
          simp only [StR.stL, Nat.zero_add, Nat.reduceAdd] at HA9 HG9 HO9
          clear vk rk rf hg HA HG HR HV HO
          go_wp2_with fail
          refine bodyPost_ret (v := .agg #[.string a, .int .i64 ag, .bool true, .int .i64 fr, .int .i64 le, .slice ha i hc]) (by simp [results, Tryd.results10, go_sem, p0, p1, p2, p3, p4, p5]) rfl (show SmP g s a ag _ fr le C PH LH w _ _ from ⟨_, _, _, HNC.out, rfl, own_low HO9.out (by omega), HA9.out, HG9.out⟩)
  · have hfn2 : (fn == 1) = false := by simp [hfn]
    go_enter Tryd.func10, Tryd.ntmps10
    go_wp2_with fail
    rw [← HW.out]
    clear HW
    refine (R1.out _ HA.out).mono ?_
    rintro e q1 ⟨rfl, hA, hq⟩
    replace HA := hid_intro hA
    replace HG := hid_intro (gtrans HG.out hq)
    replace HR := hid_intro (blkW_grown HR.out hq (by simp; omega))
    clear hA hq
    obtain ⟨wA, hwA⟩ : ∃ z, z = q1.alloc (.cells #[.string a, .int .i64 0, .bool false, .int .i64 0, .int .i64 0, .slice none 0 0] 38) := ⟨_, rfl⟩
    have al : Below q1.heap.size q1 wA := by rw [hwA]; exact (Below.refl _ _).alloc (Nat.le_refl _) _
    have HV : Hid (BlkW q1.heap.size [.string a, .int .i64 0, .bool false, .int .i64 0, .int .i64 0, .slice none 0 0] wA) := hid_intro (by rw [hwA]; exact BlkW.new q1 [.string a, .int .i64 0, .bool false, .int .i64 0, .int .i64 0, .slice none 0 0] 38)
    have hlo : w.heap.size < q1.heap.size := HR.out.1.1
    replace HA := hid_intro (satt HA.out al)
    replace HG := hid_intro (gtrans HG.out (EvtR.rgrown al _))
    replace HR := hid_intro (HR.out.below al)
    have HW := hid_intro hwA
    obtain ⟨bV, hbV⟩ : ∃ z, z = q1.heap.size := ⟨_, rfl⟩
    rw [← hbV] at HV hlo
    have HBV := hid_intro hbV
    clear hwA hbV al
    go_wp2_with fail
    rw [← HW.out, ← HBV.out]
    clear HW HBV
    refine (R2.out _ HA.out).mono ?_
    rintro e q2 ⟨rfl, hA, hq⟩
    replace HA := hid_intro hA
    replace HG := hid_intro (gtrans HG.out hq)
    replace HV := hid_intro (blkW_grown HV.out hq (by simp; omega))
    replace HR := hid_intro (blkW_grown HR.out hq (by simp; omega))
    clear hA hq
    have hl := HV.out.1.1
    have hc := HV.out.1.2 1 (by simp)
    have hf := HV.out.2 1 (by simp)
    simp only [List.getElem?_cons_zero, List.getElem?_cons_succ] at hc
    have hgs := RowG.grown_set q2 bV 1 (.int .i64 ag)
    replace HV := hid_intro (HV.out.set 1 (.int .i64 ag) (by simp))
    replace HA := hid_intro (HA.out.grown hgs (by simp; omega))
    replace HG := hid_intro (gnewG HG.out hgs (by omega))
    replace HR := hid_intro (blkW_grown HR.out hgs (by simp; omega))
    simp only [List.set_cons_zero, List.set_cons_succ] at HV
    obtain ⟨wz0, hwz⟩ : ∃ z, z = q2.setCell ⟨bV, 1, none⟩ (.int .i64 ag) := ⟨_, rfl⟩
    rw [← hwz] at HA HG HV HR
    have HW := hid_intro hwz
    clear hwz hgs
    go_wp2_with fail
    rw [← HW.out]
    clear HW hl hc hf
    refine (R3.out _ HA.out).mono ?_
    rintro e q3 ⟨rfl, hA, hq⟩
    replace HA := hid_intro hA
    replace HG := hid_intro (gtrans HG.out hq)
    replace HV := hid_intro (blkW_grown HV.out hq (by simp; omega))
    replace HR := hid_intro (blkW_grown HR.out hq (by simp; omega))
    clear hA hq
    have hl := HV.out.1.1
    have hc := HV.out.1.2 2 (by simp)
    have hf := HV.out.2 2 (by simp)
    simp only [List.getElem?_cons_zero, List.getElem?_cons_succ] at hc
    have hgs := RowG.grown_set q3 bV 2 (.bool false)
    replace HV := hid_intro (HV.out.set 2 (.bool false) (by simp))
    replace HA := hid_intro (HA.out.grown hgs (by simp; omega))
    replace HG := hid_intro (gnewG HG.out hgs (by omega))
    replace HR := hid_intro (blkW_grown HR.out hgs (by simp; omega))
    simp only [List.set_cons_zero, List.set_cons_succ] at HV
    obtain ⟨wz1, hwz⟩ : ∃ z, z = q3.setCell ⟨bV, 2, none⟩ (.bool false) := ⟨_, rfl⟩
    rw [← hwz] at HA HG HV HR
    have HW := hid_intro hwz
    clear hwz hgs
    go_wp2_with fail
    rw [← HW.out]
    clear HW hl hc hf
    refine (R4.out _ HA.out).mono ?_
    rintro e q4 ⟨rfl, hA, hq⟩
    replace HA := hid_intro hA
    replace HG := hid_intro (gtrans HG.out hq)
    replace HV := hid_intro (blkW_grown HV.out hq (by simp; omega))
    replace HR := hid_intro (blkW_grown HR.out hq (by simp; omega))
    clear hA hq
    have hl := HV.out.1.1
    have hc := HV.out.1.2 3 (by simp)
    have hf := HV.out.2 3 (by simp)
    simp only [List.getElem?_cons_zero, List.getElem?_cons_succ] at hc
    have hgs := RowG.grown_set q4 bV 3 (.int .i64 fr)
    replace HV := hid_intro (HV.out.set 3 (.int .i64 fr) (by simp))
    replace HA := hid_intro (HA.out.grown hgs (by simp; omega))
    replace HG := hid_intro (gnewG HG.out hgs (by omega))
    replace HR := hid_intro (blkW_grown HR.out hgs (by simp; omega))
    simp only [List.set_cons_zero, List.set_cons_succ] at HV
    obtain ⟨wz2, hwz⟩ : ∃ z, z = q4.setCell ⟨bV, 3, none⟩ (.int .i64 fr) := ⟨_, rfl⟩
    rw [← hwz] at HA HG HV HR
    have HW := hid_intro hwz
    clear hwz hgs
    go_wp2_with fail
    rw [← HW.out]
    clear HW hl hc hf
    refine (R5.out _ HA.out).mono ?_
    rintro e q5 ⟨rfl, hA, hq⟩
    replace HA := hid_intro hA
    replace HG := hid_intro (gtrans HG.out hq)
    replace HV := hid_intro (blkW_grown HV.out hq (by simp; omega))
    replace HR := hid_intro (blkW_grown HR.out hq (by simp; omega))
    clear hA hq
    have hl := HV.out.1.1
    have hc := HV.out.1.2 4 (by simp)
    have hf := HV.out.2 4 (by simp)
    simp only [List.getElem?_cons_zero, List.getElem?_cons_succ] at hc
    have hgs := RowG.grown_set q5 bV 4 (.int .i64 le)
    replace HV := hid_intro (HV.out.set 4 (.int .i64 le) (by simp))
    replace HA := hid_intro (HA.out.grown hgs (by simp; omega))
    replace HG := hid_intro (gnewG HG.out hgs (by omega))
    replace HR := hid_intro (blkW_grown HR.out hgs (by simp; omega))
    simp only [List.set_cons_zero, List.set_cons_succ] at HV
    obtain ⟨wz3, hwz⟩ : ∃ z, z = q5.setCell ⟨bV, 4, none⟩ (.int .i64 le) := ⟨_, rfl⟩
    rw [← hwz] at HA HG HV HR
    have HW := hid_intro hwz
    clear hwz hgs
    go_wp2_with fail
    rw [← HW.out]
    clear HW hl hc hf
    refine (RCC.out _ HA.out).mono ?_
    rintro e wC ⟨rfl, hA, hq⟩
    replace HA := hid_intro hA
    replace HG := hid_intro (gtrans HG.out hq)
    replace HV := hid_intro (blkW_grown HV.out hq (by simp; omega))
    replace HR := hid_intro (blkW_grown HR.out hq (by simp; omega))
    clear hA hq
    go_wp2_with fail
    go_loopw [4] (fun z wx => ∃ (i : Nat) (ha : Option Addr) (hc : Nat), i ≤ C ∧ z = .int .i64 ((C : Int) - (i : Int)) ∧ Hid (SAfter g s (PH i) wx) ∧ Hid (w.grownBy wx (some g)) ∧ Hid (BlkW bV [.string a, .int .i64 ag, .bool false, .int .i64 fr, .int .i64 le, .slice ha i hc] wx) ∧ Hid (wx.ownsRow (bV + 1) 57 2 (.slice ha i hc) i (cellsAll Ti.cells (LH i))) ∧ Hid (BlkW w.heap.size [.string ⟨#[]⟩, .int .i64 0, .bool false, .int .i64 0, .int .i64 0, .slice none 0 0] wx)) (fun z _ => (intOf z).toNat)
    case atStart => exact ⟨0, none, 0, by omega, by simp, HA, HG, HV, hid_intro (by rw [HH0.out]; exact World.ownsRow_nil _ _ _ _), HR⟩
    case round =>
      clear HA HG HV HR
      obtain ⟨i, ha, hc, hki, rfl, HA, HG, HV, HO, HR⟩ := hrel
      obtain ⟨pp, hSR⟩ := HA.out.open
      obtain ⟨gl, g0, g1, g2, gf0, gf1, gf2⟩ := hSR
      rcases exit_of HNH.out hki with ⟨hlt3, hno3⟩ | ⟨heq3, hall3⟩
      · have hlt4 : (0 : Int) < (C : Int) - (i : Int) := by omega
        rw [decide_eq_false hno3] at g2
        obtain ⟨om, rd1, rd2⟩ := RH.out i
        have RD1 := hid_intro rd1
        have RD2 := hid_intro rd2
        clear rd1 rd2 hno3
        have HLN := hid_intro (HHM.out i)
        generalize hh i = X at *
        generalize ss i = Y at *
        go_wp2_with fail
        clear gl g0 g1 g2 gf0 gf1 gf2
        refine (RD1.out _ HA.out).mono ?_
        rintro e u1 ⟨rfl, hA, hq⟩
        replace HA := hid_intro hA
        replace HG := hid_intro (gtrans HG.out hq)
        replace HV := hid_intro (blkW_grown HV.out hq (by simp; omega))
        replace HO := hid_intro (own_keepG HO.out hq (by omega))
        replace HR := hid_intro (blkW_grown HR.out hq (by simp; omega))
        clear hA hq
        obtain ⟨u2, hu2⟩ : ∃ z, z = u1.alloc (.cells #[.int .i64 X, .int .i64 0] 57) := ⟨_, rfl⟩
        have al : Below u1.heap.size u1 u2 := by rw [hu2]; exact (Below.refl _ _).alloc (Nat.le_refl _) _
        have HQ : Hid (BlkW u1.heap.size [.int .i64 X, .int .i64 0] u2) := hid_intro (by rw [hu2]; exact BlkW.new u1 [.int .i64 X, .int .i64 0] 57)
        have hlq : bV < u1.heap.size := HV.out.1.1
        have HQO : Hid (∀ b, (.slice ha i hc : Value).ownBlock = some b → b < u1.heap.size) := hid_intro (fun b hb => (HO.out.lt b hb).2)
        have hlr : w.heap.size < bV := by omega
        replace HA := hid_intro (satt HA.out al)
        replace HG := hid_intro (gtrans HG.out (EvtR.rgrown al _))
        replace HV := hid_intro (HV.out.below al)
        replace HO := hid_intro (RowG.own_below HO.out al)
        replace HR := hid_intro (HR.out.below al)
        have HW := hid_intro hu2
        obtain ⟨bQ, hbQ⟩ : ∃ z, z = u1.heap.size := ⟨_, rfl⟩
        rw [← hbQ] at HQ hlq HQO
        have HBQ := hid_intro hbQ
        clear hu2 hbQ al
        go_wp2_with fail
        rw [← HW.out, ← HBQ.out]
        clear HW
        refine (RD2.out _ HA.out).mono ?_
        rintro e u3 ⟨rfl, hA, hq⟩
        replace HQ := hid_intro (blkW_grown HQ.out hq (by simp; omega))
        replace HA := hid_intro hA
        replace HG := hid_intro (gtrans HG.out hq)
        replace HV := hid_intro (blkW_grown HV.out hq (by simp; omega))
        replace HO := hid_intro (own_keepG HO.out hq (by omega))
        replace HR := hid_intro (blkW_grown HR.out hq (by simp; omega))
        clear hA hq
        have hl := HQ.out.1.1
        have vl := HV.out.1.1
        have v7 := HV.out.1.2 5 (by simp)
        have f7 := HV.out.2 5 (by simp)
        have hqv : bQ ≠ bV := by omega
        have hvq : bV ≠ bQ := by omega
        have hcc := HQ.out.1.2 1 (by simp)
        have hc0 := HQ.out.1.2 0 (by simp)
        have hff := HQ.out.2 1 (by simp)
        simp only [List.getElem?_cons_zero, List.getElem?_cons_succ] at hcc hc0 v7
        have hgs := RowG.grown_set u3 bQ 1 (.int .i64 Y)
        replace HA := hid_intro (HA.out.grown hgs (by simp; omega))
        replace HG := hid_intro (gnewG HG.out hgs (by omega))
        replace HV := hid_intro (blkW_grown HV.out hgs (by simp; omega))
        replace HO := hid_intro (own_keepO HO.out hgs (fun b hb => by have := HQO.out b hb; simp; omega))
        replace HR := hid_intro (blkW_grown HR.out hgs (by simp; omega))
        have hnw : ∀ j u, ([.int .i64 X, .int .i64 Y] : List Value)[j]? = some u → ((u3.setCell ⟨bQ, 1, none⟩ (.int .i64 Y)).alloc (.cells #[.int .i64 X, .int .i64 Y] 57)).cell? ((⟨u3.heap.size, 0, none⟩ : Addr).add j) = some u := by
          have h := new_cells (u3.setCell ⟨bQ, 1, none⟩ (.int .i64 Y)) [.int .i64 X, .int .i64 Y] 57
          simpa using h
        have HAL2 := hid_intro (fun b (hb : (.slice ha i hc : Value).ownBlock = some b) => (HO.out.lt b hb).1)
        have hbv : bV + 1 ≤ u3.heap.size := by omega
        clear hgs
        go_wp2_with (at_builtin; refine wpList_append_own _ rfl _ _ 36 rfl (bV + 1) 57 j0 (.agg #[.int .i64 0, .int .i64 0]) 2 16 Tryd.underlying36 gi gz0 gz1 gz2 rfl (by decide) _ _ _ rfl (HO.out.alloc _) ⟨u3.heap.size, 0, none⟩ 1 1 [.int .i64 X, .int .i64 Y] rfl rfl hnw (ti_one _ _) ?d3 ?d4 ?d5 ?_)
        case d3 => unfold maxLen; omega
        case d4 => omega
        case d5 => simp; omega
        intro v9 w9 hown hgrow hne
        have hO9 : w9.ownsRow (bV + 1) 57 2 v9 (i + 1) (cellsAll Ti.cells (LH (i + 1))) := by rw [HLN.out, cellsAll_snoc]; exact hown
        have al := ((Below.refl _ (u3.setCell ⟨bQ, 1, none⟩ (.int .i64 Y))).alloc (Nat.le_refl _) (.cells #[.int .i64 X, .int .i64 Y] 57))
        replace HR := hid_intro (blkW_grown (HR.out.below al) hgrow (fun e => by have := HAL2.out _ e.symm; omega))
        replace HA := hid_intro ((satt HA.out al).grown hgrow (fun e => by have := HAL2.out _ e.symm; omega))
        replace HG := hid_intro (gnewR (gtrans HG.out (EvtR.rgrown al _)) hgrow (fun X e => by have := HAL2.out _ e; omega))
        replace HV := hid_intro (blkW_grown (HV.out.below al) hgrow (fun e => by have := HAL2.out _ e.symm; omega))
        obtain ⟨sb, sc, rfl⟩ := own_form hO9
        have HO9 := hid_intro hO9
        clear hown hgrow hne hnw hO9 al hl hcc hc0 hff vl v7 f7 HO HQ HAL2 HBQ
        have vl := HV.out.1.1
        have v7 := HV.out.1.2 5 (by simp)
        have f7 := HV.out.2 5 (by simp)
        simp only [List.getElem?_cons_zero, List.getElem?_cons_succ] at v7
        have hgs := RowG.grown_set w9 bV 5 (.slice (some ⟨sb, 0, none⟩) (i + 1) sc)
        have HA9 := hid_intro (HA.out.grown hgs (by simp; omega))
        have HG9 := hid_intro (gnewG HG.out hgs (by omega))
        have HV9 := hid_intro (HV.out.set 5 (.slice (some ⟨sb, 0, none⟩) (i + 1) sc) (by simp))
        have HO8 := hid_intro (own_keepG HO9.out hgs (by omega))
        have HR9 := hid_intro (blkW_grown HR.out hgs (by simp; omega))
        simp only [List.set_cons_zero, List.set_cons_succ] at HV9
        clear hgs HA HG HV HO9 HR
        go_wp2_with fail
        go_roundw
        case rel => exact ⟨i + 1, some ⟨sb, 0, none⟩, sc, by omega, by go_num, HA9, HG9, HV9, HO8, HR9⟩
        case measure => simp [intOf]; omega
      · rcases exit_two heq3 hall3 hki with hex3 | ⟨hex3, hd3⟩
        · have HNC : Hid (PH C ≠ none → i = C) := hid_intro hall3
          replace HA : Hid (SAfter g s (PH C) wr) := hid_intro (by rw [← heq3]; exact HA.out)
          clear heq3 hall3
          obtain ⟨⟨vl, vk⟩, _⟩ := HV.out
          have v0 : wr.cell? ⟨bV, 0, none⟩ = some (.string a) := vk 0 (by simp)
          have v1 : wr.cell? ⟨bV, 1, none⟩ = some (.int .i64 ag) := vk 1 (by simp)
          have v2 : wr.cell? ⟨bV, 2, none⟩ = some (.bool false) := vk 2 (by simp)
          have v3 : wr.cell? ⟨bV, 3, none⟩ = some (.int .i64 fr) := vk 3 (by simp)
          have v4 : wr.cell? ⟨bV, 4, none⟩ = some (.int .i64 le) := vk 4 (by simp)
          have v5 : wr.cell? ⟨bV, 5, none⟩ = some (.slice ha i hc) := vk 5 (by simp)
          obtain ⟨⟨rl, rk⟩, rf⟩ := HR.out
          have p0 : wr.cell? ⟨w.heap.size, 0, none⟩ = some (.string ⟨#[]⟩) := rk 0 (by simp)
          have f0 : wr.frozen? ⟨w.heap.size, 0, none⟩ = false := rf 0 (by simp)
          have p1 : wr.cell? ⟨w.heap.size, 1, none⟩ = some (.int .i64 0) := rk 1 (by simp)
          have f1 : wr.frozen? ⟨w.heap.size, 1, none⟩ = false := rf 1 (by simp)
          have p2 : wr.cell? ⟨w.heap.size, 2, none⟩ = some (.bool false) := rk 2 (by simp)
          have f2 : wr.frozen? ⟨w.heap.size, 2, none⟩ = false := rf 2 (by simp)
          have p3 : wr.cell? ⟨w.heap.size, 3, none⟩ = some (.int .i64 0) := rk 3 (by simp)
          have f3 : wr.frozen? ⟨w.heap.size, 3, none⟩ = false := rf 3 (by simp)
          have p4 : wr.cell? ⟨w.heap.size, 4, none⟩ = some (.int .i64 0) := rk 4 (by simp)
          have f4 : wr.frozen? ⟨w.heap.size, 4, none⟩ = false := rf 4 (by simp)
          have p5 : wr.cell? ⟨w.heap.size, 5, none⟩ = some (.slice none 0 0) := rk 5 (by simp)
          have f5 : wr.frozen? ⟨w.heap.size, 5, none⟩ = false := rf 5 (by simp)
          have hg := StR.stL_grown w.heap.size [.string a, .int .i64 ag, .bool false, .int .i64 fr, .int .i64 le, .slice ha i hc] 0 wr
          have HA9 := hid_intro (HA.out.grown hg (by simp; omega))
          have HG9 := hid_intro (gnewG HG.out hg (Nat.le_refl _))
          have HO9 := hid_intro (own_keepG HO.out hg (by omega))
          simp only [StR.stL, Nat.zero_add, Nat.reduceAdd] at HA9 HG9 HO9
          clear vk rk rf hg HA HG HR HV HO
          go_wp2_with fail
          refine bodyPost_ret (v := .agg #[.string a, .int .i64 ag, .bool false, .int .i64 fr, .int .i64 le, .slice ha i hc]) (by simp [results, Tryd.results10, go_sem, p0, p1, p2, p3, p4, p5]) rfl (show SmP g s a ag _ fr le C PH LH w _ _ from ⟨_, _, _, HNC.out, rfl, own_low HO9.out (by omega), HA9.out, HG9.out⟩)
        · rw [hd3] at g2
          have HNC : Hid (PH C ≠ none → i = C) := hid_intro hall3
          replace HA : Hid (SAfter g s (PH C) wr) := hid_intro (by rw [← heq3]; exact HA.out)
          clear heq3 hall3 hd3
          obtain ⟨⟨vl, vk⟩, _⟩ := HV.out
          have v0 : wr.cell? ⟨bV, 0, none⟩ = some (.string a) := vk 0 (by simp)
          have v1 : wr.cell? ⟨bV, 1, none⟩ = some (.int .i64 ag) := vk 1 (by simp)
          have v2 : wr.cell? ⟨bV, 2, none⟩ = some (.bool false) := vk 2 (by simp)
          have v3 : wr.cell? ⟨bV, 3, none⟩ = some (.int .i64 fr) := vk 3 (by simp)
          have v4 : wr.cell? ⟨bV, 4, none⟩ = some (.int .i64 le) := vk 4 (by simp)
          have v5 : wr.cell? ⟨bV, 5, none⟩ = some (.slice ha i hc) := vk 5 (by simp)
          obtain ⟨⟨rl, rk⟩, rf⟩ := HR.out
          have p0 : wr.cell? ⟨w.heap.size, 0, none⟩ = some (.string ⟨#[]⟩) := rk 0 (by simp)
          have f0 : wr.frozen? ⟨w.heap.size, 0, none⟩ = false := rf 0 (by simp)
          have p1 : wr.cell? ⟨w.heap.size, 1, none⟩ = some (.int .i64 0) := rk 1 (by simp)
          have f1 : wr.frozen? ⟨w.heap.size, 1, none⟩ = false := rf 1 (by simp)
          have p2 : wr.cell? ⟨w.heap.size, 2, none⟩ = some (.bool false) := rk 2 (by simp)
          have f2 : wr.frozen? ⟨w.heap.size, 2, none⟩ = false := rf 2 (by simp)
          have p3 : wr.cell? ⟨w.heap.size, 3, none⟩ = some (.int .i64 0) := rk 3 (by simp)
          have f3 : wr.frozen? ⟨w.heap.size, 3, none⟩ = false := rf 3 (by simp)
          have p4 : wr.cell? ⟨w.heap.size, 4, none⟩ = some (.int .i64 0) := rk 4 (by simp)
          have f4 : wr.frozen? ⟨w.heap.size, 4, none⟩ = false := rf 4 (by simp)
          have p5 : wr.cell? ⟨w.heap.size, 5, none⟩ = some (.slice none 0 0) := rk 5 (by simp)
          have f5 : wr.frozen? ⟨w.heap.size, 5, none⟩ = false := rf 5 (by simp)
          have hg := StR.stL_grown w.heap.size [.string a, .int .i64 ag, .bool false, .int .i64 fr, .int .i64 le, .slice ha i hc] 0 wr
          have HA9 := hid_intro (HA.out.grown hg (by simp; omega))
          have HG9 := hid_intro (gnewG HG.out hg (Nat.le_refl _))
          have HO9 := hid_intro (own_keepG HO.out hg (by omega))
          simp only [StR.stL, Nat.zero_add, Nat.reduceAdd] at HA9 HG9 HO9
          clear vk rk rf hg HA HG HR HV HO
          go_wp2_with fail
          refine bodyPost_ret (v := .agg #[.string a, .int .i64 ag, .bool false, .int .i64 fr, .int .i64 le, .slice ha i hc]) (by simp [results, Tryd.results10, go_sem, p0, p1, p2, p3, p4, p5]) rfl (show SmP g s a ag _ fr le C PH LH w _ _ from ⟨_, _, _, HNC.out, rfl, own_low HO9.out (by omega), HA9.out, HG9.out⟩)
end CatR
end Go.Proofs.YtgaihlhoegaliaaDoor
namespace Go.Proofs.YtgaihlhoegaliaaDoor
open Go.RowKit
namespace LtR
open Op (bytesLess)
theorem bl_irrefl : ∀ x : List UInt8, bytesLess x x = false
  | [] => rfl
  | a :: x => by
    rw [bytesLess, bl_irrefl x]
    simp
theorem bl_trans : ∀ {x y z : List UInt8}, bytesLess x y = true → bytesLess y z = true → bytesLess x z = true
  | _, [], _, h, _ => by simp [bytesLess] at h
  | _, _ :: _, [], _, h => by simp [bytesLess] at h
  | [], _ :: _, _ :: _, _, _ => rfl
  | a :: x, b :: y, c :: z, h1, h2 => by
    rw [bytesLess] at *
    simp only [Bool.or_eq_true, Bool.and_eq_true, decide_eq_true_eq, beq_iff_eq] at *
    rcases h1 with h1 | ⟨rfl, h1⟩
    · rcases h2 with h2 | ⟨rfl, h2⟩
      · exact .inl (UInt8.lt_trans h1 h2)
      · exact .inl h1
    · rcases h2 with h2 | ⟨rfl, h2⟩
      · exact .inl h2
      · exact .inr ⟨rfl, bl_trans h1 h2⟩
theorem bl_total : ∀ {x y : List UInt8}, bytesLess x y = false → bytesLess y x = false → x = y
  | [], [], _, _ => rfl
  | [], _ :: _, h, _ => by simp [bytesLess] at h
  | _ :: _, [], _, h => by simp [bytesLess] at h
  | a :: x, b :: y, h1, h2 => by
    rw [bytesLess] at *
    simp only [Bool.or_eq_false_iff, Bool.and_eq_false_iff, decide_eq_false_iff_not, beq_eq_false_iff_ne] at *
    have e : a = b := by
      have p1 := h1.1
      have p2 := h2.1
      rw [UInt8.lt_iff_toNat_lt] at p1 p2
      exact UInt8.toNat.inj (by omega)
    subst e
    rw [bl_total (h1.2.resolve_left (fun h => h rfl)) (h2.2.resolve_left (fun h => h rfl))]
/-- One text is ahead of another. -/
def lt (a b : ByteArray) : Bool := bytesLess a.toList b.toList
theorem toList_inj {a b : ByteArray} (h : a.toList = b.toList) : a = b := by
  rw [ByteArray.toList_eq, ByteArray.toList_eq] at h
  exact ByteArray.ext (Array.ext' h)
theorem lt_irrefl (a : ByteArray) : lt a a = false := bl_irrefl _
theorem lt_trans {a b c : ByteArray} (h1 : lt a b = true) (h2 : lt b c = true) : lt a c = true := bl_trans h1 h2
theorem lt_total {a b : ByteArray} (h1 : lt a b = false) (h2 : lt b a = false) : a = b := toList_inj (bl_total h1 h2)
theorem lt_asymm {a b : ByteArray} (h : lt a b = true) : lt b a = false := by
  cases h2 : lt b a
  · rfl
  · have := lt_trans h h2
    rw [lt_irrefl] at this
    cases this
theorem lt_empty {b : ByteArray} (h : 1 ≤ b.size) : lt ⟨#[]⟩ b = true := by
  unfold lt
  have h1 : (⟨#[]⟩ : ByteArray).toList = [] := by rw [ByteArray.toList_eq]
  rw [h1]
  cases hb : b.toList with
  | nil =>
    rw [ByteArray.toList_eq] at hb
    have : b.data.toList.length = 0 := by rw [hb]; rfl
    have h2 : b.data.toList.length = b.size := rfl
    omega
  | cons x l => rfl
end LtR
end Go.Proofs.YtgaihlhoegaliaaDoor
