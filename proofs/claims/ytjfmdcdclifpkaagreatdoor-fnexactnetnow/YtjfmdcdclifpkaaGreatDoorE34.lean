/-
  spec.EngineRight. The condition: sizes of at most 1048576.
  An engine is right: spec.EngineRight and impl.EngineRight say the same. The conditions: sizes of at most 1048576; the program's variables hold what its text lays.
  The program's Less and the model's: both hand back the same lines. The condition: at most 1048576 lines, whose Meters have at most 1048576 bytes.
  NetOf on both sides. The conditions: documents that are small, months that are numbers of 64 bits, accounts of at most 1048576 bytes.
-/
import Derived.Test.YtjfmdcdclifpkaaGreatDoorE33
namespace Go.Proofs.YtjfmdcdclifpkaaGreatDoor
open Go.ChangeShapes Go.WideShapes Go.ChangeAt Go.RowKit
set_option linter.unusedVariables false
namespace EngR
open CatR
open WinR (Wd Wns wcells wB wlt Tgs Hrs)
theorem gone_yes {es : List SeenR.N} {v : Int} {k : Nat} (hk : k < es.length) (h : (es.getD k SeenR.N.zero).n < v) : goneB es v = true := by
  refine List.any_eq_true.2 ⟨es[k], List.getElem_mem hk, decide_eq_true ?_⟩
  simpa [List.getD, hk] using h
theorem gone_no {es : List SeenR.N} {v : Int} (h : ∀ k, k < es.length → ¬ (es.getD k SeenR.N.zero).n < v) : goneB es v = false := by
  refine List.any_eq_false.2 (fun x hx => ?_)
  obtain ⟨i, hi, rfl⟩ := List.getElem_of_mem hx
  have := h i hi
  simpa [List.getD, hi] using this
set_option maxRecDepth 100000 in
set_option maxHeartbeats 8000000 in
theorem seright_in (ma : Option Addr) (ml mc : Nat) (ca : Option Addr) (cl cc : Nat) (sa : Option Addr) (sl sc : Nat) (ea : Option Addr) (ec : Nat) (ua : Option Addr) (uc : Nat) (da : Option Addr) (dl dc : Nat) (fr v : Int) (ms : List Me) (es : List SeenR.N) (ws : List Wd) (b1 b2 b3 b4 b5 : Bool) (w : World)
    (hE : SeenR.Ens ea es w) (hel : es.length ≤ 1048576) (hI : Wns ua ws w) (hlen : ws.length ≤ 1048576)
    (h1 : ∀ W, Below w.heap.size w W → Calls Tryz.prog 61 #[.agg #[.slice ma ml mc, .slice ca cl cc]] W fun e w' => e = .returned (.bool b1) ∧ Below W.heap.size W w')
    (h2 : ∀ W, Below w.heap.size w W → Calls Tryz.prog 62 #[.slice ea es.length ec] W fun e w' => e = .returned (.bool b2) ∧ Below W.heap.size W w')
    (h3 : ∀ W, Below w.heap.size w W → Calls Tryz.prog 63 #[.slice da dl dc] W fun e w' => e = .returned (.bool b3) ∧ Below W.heap.size W w')
    (h4 : ∀ W, Below w.heap.size w W → Calls Tryz.prog 64 #[.slice sa sl sc] W fun e w' => e = .returned (.bool b4) ∧ Below W.heap.size W w')
    (h5 : ∀ W, Calls Tryz.prog 65 #[.int .i64 fr] W fun e w' => e = .returned (.bool b5) ∧ w' = W)
    (hw : ∀ k, k < ws.length → ∀ ta tc ha hc W, Below w.heap.size w W → Tgs ta (ws.getD k Wd.zero).ts W → Hrs ha (ws.getD k Wd.zero).hs W → Calls Tryz.prog 66 #[.agg (wcells (ws.getD k Wd.zero) ta tc ha hc)] W fun e w' => e = .returned (.bool (wB (ws.getD k Wd.zero))) ∧ Below W.heap.size W w')
    (hs : ∀ t, ∃ r : Int, decide (r < 0) = (!sellB ms t) ∧ ∀ W, Below w.heap.size w W → Calls Tryz.prog 67 #[.agg #[.slice ma ml mc, .slice ca cl cc], .string t] W fun e w' => e = .returned (.int .i64 r) ∧ Below W.heap.size W w')
    (hv : b5 = true → ∀ W, Below w.heap.size w W → Calls Tryz.prog 69 #[.int .i64 fr] W fun e w' => e = .returned (.int .i64 v) ∧ Below W.heap.size W w') :
    Calls Tryz.prog 24 #[.agg #[.slice ma ml mc, .slice ca cl cc, .slice sa sl sc, .slice ea es.length ec, .slice ua ws.length uc, .slice da dl dc, .int .i64 fr]] w fun e w' => e = .returned (.bool (b1 && b2 && b3 && b4 && b5 && winB ws ms fr && !goneB es v)) ∧ Below w.heap.size w w' := by
  have H1 := hid_intro h1
  have H2 := hid_intro h2
  have H3 := hid_intro h3
  have H4 := hid_intro h4
  have H5 := hid_intro h5
  have HV := hid_intro hv
  have HI := hid_intro hI
  have HE := hid_intro hE
  have HWR := hid_intro hw
  have HAT := hid_intro hs
  have HF : Hid (∀ k, k < ws.length → wok ws ms fr k = false → winB ws ms fr = false) := hid_intro (fun k hk h => winB_no hk h)
  have HG : Hid (16 < ws.length → winB ws ms fr = false) := hid_intro (fun h => winB_long h)
  have HY : Hid (ws.length ≤ 16 → (∀ i, i < ws.length → wok ws ms fr i = true) → winB ws ms fr = true) := hid_intro (fun h h2 => winB_yes h h2)
  have HGN : Hid (∀ k, k < es.length → (es.getD k SeenR.N.zero).n < v → goneB es v = true) := hid_intro (fun k hk h => gone_yes hk h)
  have HGY : Hid ((∀ k, k < es.length → ¬ (es.getD k SeenR.N.zero).n < v) → goneB es v = false) := hid_intro (fun h => gone_no h)
  generalize winB ws ms fr = RW at *
  generalize goneB es v = RG at *
  obtain ⟨ul, hul⟩ : ∃ z, z = ws.length := ⟨_, rfl⟩
  obtain ⟨el, hell⟩ : ∃ z, z = es.length := ⟨_, rfl⟩
  have HL := hid_intro hul
  have HLE := hid_intro hell
  rw [← hul] at hlen HF HG HY ⊢
  rw [← hell] at hel HGN HGY H2 ⊢
  obtain ⟨W0, hW0⟩ : ∃ z, z = w.alloc (.cells #[.slice ma ml mc, .slice ca cl cc, .slice sa sl sc, .slice ea el ec, .slice ua ul uc, .slice da dl dc, .int .i64 fr] 44) := ⟨_, rfl⟩
  have hal : Below w.heap.size w W0 := by rw [hW0]; exact (Below.refl _ _).alloc (Nat.le_refl _) _
  have hA : Blk w.heap.size [.slice ma ml mc, .slice ca cl cc, .slice sa sl sc, .slice ea el ec, .slice ua ul uc, .slice da dl dc, .int .i64 fr] W0 := by rw [hW0]; exact Blk.new w _ _
  have HB0 := hid_intro hal
  have HA0 := hid_intro hA
  have HWq := hid_intro hW0
  have al := hA.1
  clear h1 h2 h3 h4 h5 hw hs hv hI hE hul hell hal hW0 hA al
  go_enter Tryz.func24, Tryz.ntmps24
  go_wp2_with fail
  rw [← HWq.out]
  clear HWq
  refine (H1.out _ HB0.out).mono ?_
  rintro e w1 ⟨rfl, hb⟩
  have HB1 := hid_intro (HB0.out.trans (hb.mono HB0.out.size))
  have HA1 := hid_intro (HA0.out.below hb)
  clear hb
  cases b1
  · go_wp2_with fail
    go_ret
    exact ⟨rfl, HB1.out⟩
  have al := HA1.out.1
  have c3 : w1.cell? ⟨w.heap.size, 3, none⟩ = some (.slice ea el ec) := HA1.out.2 3 (by simp)
  go_wp2_with fail
  refine (H2.out _ HB1.out).mono ?_
  rintro e w2 ⟨rfl, hb⟩
  have HB2 := hid_intro (HB1.out.trans (hb.mono HB1.out.size))
  have HA2 := hid_intro (HA1.out.below hb)
  clear hb
  clear al c3
  cases b2
  · go_wp2_with fail
    go_ret
    exact ⟨rfl, HB2.out⟩
  have al := HA2.out.1
  have c5 : w2.cell? ⟨w.heap.size, 5, none⟩ = some (.slice da dl dc) := HA2.out.2 5 (by simp)
  go_wp2_with fail
  refine (H3.out _ HB2.out).mono ?_
  rintro e w3 ⟨rfl, hb⟩
  have HB3 := hid_intro (HB2.out.trans (hb.mono HB2.out.size))
  have HA3 := hid_intro (HA2.out.below hb)
  clear hb
  clear al c5
  cases b3
  · go_wp2_with fail
    go_ret
    exact ⟨rfl, HB3.out⟩
  have al := HA3.out.1
  have c2 : w3.cell? ⟨w.heap.size, 2, none⟩ = some (.slice sa sl sc) := HA3.out.2 2 (by simp)
  go_wp2_with fail
  refine (H4.out _ HB3.out).mono ?_
  rintro e w4 ⟨rfl, hb⟩
  have HB4 := hid_intro (HB3.out.trans (hb.mono HB3.out.size))
  have HA4 := hid_intro (HA3.out.below hb)
  clear hb
  clear al c2
  cases b4
  · go_wp2_with fail
    go_ret
    exact ⟨rfl, HB4.out⟩
  have al := HA4.out.1
  have c4 : w4.cell? ⟨w.heap.size, 4, none⟩ = some (.slice ua ul uc) := HA4.out.2 4 (by simp)
  have c6 : w4.cell? ⟨w.heap.size, 6, none⟩ = some (.int .i64 fr) := HA4.out.2 6 (by simp)
  by_cases h16 : 16 < ul
  · have h2 : (16 : Int) < (ul : Int) := by omega
    have HR := hid_intro (HG.out h16)
    go_wp2_with fail
    go_ret
    exact ⟨ret_bool (by rw [HR.out]; simp), HB4.out⟩
  have h2 : ¬ (16 : Int) < (ul : Int) := by omega
  go_wp2_with fail
  refine (H5.out _).mono ?_
  rintro e w5 ⟨rfl, hw⟩
  rw [hw]
  clear hw w5 al c4 c6
  cases b5
  · go_wp2_with fail
    go_ret
    exact ⟨rfl, HB4.out⟩
  clear H1 H2 H3 H4 H5 HB1 HB2 HB3 HB0 HA0 HA1 HA2 HA3
  go_wp2_with fail
  go_loopw [3] (fun z wr => ∃ k : Nat, k ≤ ul ∧ z = .int .i64 k ∧ Hid (∀ i, i < k → wok ws ms fr i = true) ∧ Hid (Blk w.heap.size [.slice ma ml mc, .slice ca cl cc, .slice sa sl sc, .slice ea el ec, .slice ua ul uc, .slice da dl dc, .int .i64 fr] wr) ∧ Hid (Below w.heap.size w wr)) (fun z _ => ul - (intOf z).toNat)
  case atStart => exact ⟨0, by omega, rfl, hid_intro (fun i hi => absurd hi (by omega)), HA4, HB4⟩
  case round =>
    clear HA4 HB4
    obtain ⟨k, hk, rfl, HK, HA, HB⟩ := hrel
    by_cases hlt : k < ul
    · have hlt2 : (k : Int) < (ul : Int) := by omega
      obtain ⟨b, off, ta, tc, ha, hc, rfl, hbl, c0, c1, c2, c3, c4, c5, c6, c7, hT, hH⟩ := (HI.out.below HB.out).at k (by have := HL.out; omega)
      have hlk : k < ws.length := by have := HL.out; omega
      have HWK := hid_intro (HWR.out k hlk ta tc ha hc)
      have HFK := hid_intro (HF.out k hlt)
      have HMK : Hid (wok ws ms fr k = true → ∀ i, i < k + 1 → wok ws ms fr i = true) := hid_intro (fun h => okMore HK.out h)
      have HOK : Hid (wok ws ms fr k = (wB (ws.getD k Wd.zero) && sellB ms (ws.getD k Wd.zero).m && !decide ((ws.getD k Wd.zero).mo < fr) && (k == 0 || wlt (ws.getD (k - 1) Wd.zero) (ws.getD k Wd.zero)))) := hid_intro rfl
      obtain ⟨X, hX⟩ : ∃ z, z = ws.getD k Wd.zero := ⟨_, rfl⟩
      rw [← hX] at c0 c1 c2 c3 c4 c5 c6 c7 hT hH HWK HOK
      have HWL : Hid (∀ (Y : Wd) (ta' ha' : Option Addr) (tc' hc' : Nat) (W : World), Calls Tryz.prog 68 #[.agg (wcells Y ta' tc' ha' hc'), .agg (wcells X ta tc ha hc)] W fun e w' => e = .returned (.bool (wlt Y X)) ∧ Below W.heap.size W w') := hid_intro (fun Y ta' ha' tc' hc' W => WinR.sless Y X ta' ha' ta ha tc' hc' tc hc W)
      generalize hqw : wB X = bw at *
      clear hqw
      generalize hqw : (fun Y => wlt Y X) = WL at *
      have hWL : ∀ Y, wlt Y X = WL Y := fun Y => congrFun hqw Y
      simp only [hWL] at HWL HOK
      clear hqw hWL hX
      obtain ⟨xa, xm, xo, xe, xs, xx, xt, xh⟩ := X
      dsimp only [wcells] at c0 c1 c2 c3 c4 c5 c6 c7 hT hH HWK HOK HWL
      obtain ⟨W1, hW1⟩ : ∃ z, z = wr.alloc (.cells #[.string xa, .string xm, .int .i64 xo, .int .i64 xe, .int .i64 xs, .int .i64 xx, .slice ta xt.length tc, .slice ha xh.length hc] 115) := ⟨_, rfl⟩
      have hal : Below wr.heap.size wr W1 := by rw [hW1]; exact (Below.refl _ _).alloc (Nat.le_refl _) _
      have hX1 : Blk wr.heap.size [.string xa, .string xm, .int .i64 xo, .int .i64 xe, .int .i64 xs, .int .i64 xx, .slice ta xt.length tc, .slice ha xh.length hc] W1 := by rw [hW1]; exact Blk.new wr _ _
      have HB1 := hid_intro (HB.out.trans (hal.mono HB.out.size))
      have hA1 := HA.out.below hal
      have HA1 := hid_intro hA1
      have HW1 := hid_intro hW1
      obtain ⟨S, hS⟩ : ∃ S : World → Prop, ∀ W, S W ↔ Below W1.heap.size W1 W := ⟨_, fun _ => Iff.rfl⟩
      have HSC : Hid (∀ s : HW S, Below W1.heap.size W1 s.w) := hid_intro (fun s => (hS _).1 s.h)
      have HSW : Hid (∀ s : HW S, Below w.heap.size w s.w) := hid_intro (fun s => HB1.out.trans (((hS _).1 s.h).mono HB1.out.size))
      have HSB : Hid (∀ (s : HW S) w', Below s.w.heap.size s.w w' → S w') := hid_intro (fun s w' hb => (hS _).2 ((HSC.out s).trans (hb.mono (HSC.out s).size)))
      have HSD : Hid (S W1.drew) := hid_intro ((hS _).2 (Below.refl _ _).drew)
      have hne : Nonempty (HW S) := ⟨⟨_, HSD.out⟩⟩
      have HWKS := hid_intro (fun s : HW S => HWK.out s.w (HSW.out s) ((hT.below hal).below (HSC.out s)) ((hH.below hal).below (HSC.out s)))
      have hIS := (HI.out.below HB1.out)
      have hal0 := HA.out.1
      obtain ⟨r, hr, hat⟩ := HAT.out xm
      have HATS := hid_intro (fun s : HW S => hat s.w (HSW.out s))
      clear hat hT hH hal hW1 HWK hS
      have hX2 := hX1
      generalize xt.length = tl at *
      generalize xh.length = hl at *
      have a4 : wr.cell? ⟨w.heap.size, 4, none⟩ = some (.slice (some ⟨b, off, none⟩) ul uc) := HA.out.2 4 (by simp)
      go_wp2_with fail
      rw [← HW1.out]
      clear HW1 c0 c1 c2 c3 c4 c5 c6 c7 a4 hal0
      generalize wr.heap.size = B at *
      have bl := hX1.1
      have al := hA1.1
      have e0 : ∀ s : HW S, s.w.cell? ⟨w.heap.size, 0, none⟩ = some (.slice ma ml mc) := fun s => ((HSC.out s).cell (p := ⟨w.heap.size, 0, none⟩) al).trans (hA1.2 0 (by simp))
      have e1 : ∀ s : HW S, s.w.cell? ⟨w.heap.size, 1, none⟩ = some (.slice ca cl cc) := fun s => ((HSC.out s).cell (p := ⟨w.heap.size, 1, none⟩) al).trans (hA1.2 1 (by simp))
      have e4 : ∀ s : HW S, s.w.cell? ⟨w.heap.size, 4, none⟩ = some (.slice (some ⟨b, off, none⟩) ul uc) := fun s => ((HSC.out s).cell (p := ⟨w.heap.size, 4, none⟩) al).trans (hA1.2 4 (by simp))
      have e6 : ∀ s : HW S, s.w.cell? ⟨w.heap.size, 6, none⟩ = some (.int .i64 fr) := fun s => ((HSC.out s).cell (p := ⟨w.heap.size, 6, none⟩) al).trans (hA1.2 6 (by simp))
      have f0 : ∀ s : HW S, s.w.cell? ⟨B, 0, none⟩ = some (.string xa) := fun s => ((HSC.out s).cell (p := ⟨B, 0, none⟩) bl).trans (hX1.2 0 (by simp))
      have f1 : ∀ s : HW S, s.w.cell? ⟨B, 1, none⟩ = some (.string xm) := fun s => ((HSC.out s).cell (p := ⟨B, 1, none⟩) bl).trans (hX1.2 1 (by simp))
      have f2 : ∀ s : HW S, s.w.cell? ⟨B, 2, none⟩ = some (.int .i64 xo) := fun s => ((HSC.out s).cell (p := ⟨B, 2, none⟩) bl).trans (hX1.2 2 (by simp))
      have f3 : ∀ s : HW S, s.w.cell? ⟨B, 3, none⟩ = some (.int .i64 xe) := fun s => ((HSC.out s).cell (p := ⟨B, 3, none⟩) bl).trans (hX1.2 3 (by simp))
      have f4 : ∀ s : HW S, s.w.cell? ⟨B, 4, none⟩ = some (.int .i64 xs) := fun s => ((HSC.out s).cell (p := ⟨B, 4, none⟩) bl).trans (hX1.2 4 (by simp))
      have f5 : ∀ s : HW S, s.w.cell? ⟨B, 5, none⟩ = some (.int .i64 xx) := fun s => ((HSC.out s).cell (p := ⟨B, 5, none⟩) bl).trans (hX1.2 5 (by simp))
      have f6 : ∀ s : HW S, s.w.cell? ⟨B, 6, none⟩ = some (.slice ta tl tc) := fun s => ((HSC.out s).cell (p := ⟨B, 6, none⟩) bl).trans (hX1.2 6 (by simp))
      have f7 : ∀ s : HW S, s.w.cell? ⟨B, 7, none⟩ = some (.slice ha hl hc) := fun s => ((HSC.out s).cell (p := ⟨B, 7, none⟩) bl).trans (hX1.2 7 (by simp))
      clear hX1 hX2 hA1 al bl
      cases bw
      · have HR := hid_intro (HFK.out (by rw [HOK.out]; simp))
        refine wp_region_hw S (by kernel_rfl) (by kernel_rfl) HSD.out ?_
        repeat (go_big_quiet_step ((rename_i s; first | (go_at_call 66; refine (HWKS.out s).mono ?_; rintro e w1 ⟨rfl, hb1⟩; exact ⟨rfl, ⟨w1, HSB.out s w1 hb1⟩, rfl⟩) | (go_at_call 67; refine (HATS.out s).mono ?_; rintro e w1 ⟨rfl, hb1⟩; exact ⟨rfl, ⟨w1, HSB.out s w1 hb1⟩, rfl⟩))))
        refine wpQuiet_nil ?_
        intro _ hw'
        obtain ⟨s, hw''⟩ := hw'
        subst hw''
        have HBF := hid_intro (HSW.out s)
        go_wp2_with fail
        go_ret
        exact ⟨ret_bool (by rw [HR.out]; simp), HBF.out⟩
      generalize sellB ms xm = bs at *
      cases bs
      · have HR := hid_intro (HFK.out (by rw [HOK.out]; simp))
        have hr0 : r < 0 := of_decide_eq_true (by rw [hr]; rfl)
        clear hr
        refine wp_region_hw S (by kernel_rfl) (by kernel_rfl) HSD.out ?_
        repeat (go_big_quiet_step ((rename_i s; first | (go_at_call 66; refine (HWKS.out s).mono ?_; rintro e w1 ⟨rfl, hb1⟩; exact ⟨rfl, ⟨w1, HSB.out s w1 hb1⟩, rfl⟩) | (go_at_call 67; refine (HATS.out s).mono ?_; rintro e w1 ⟨rfl, hb1⟩; exact ⟨rfl, ⟨w1, HSB.out s w1 hb1⟩, rfl⟩))))
        refine wpQuiet_nil ?_
        intro _ hw'
        obtain ⟨s, hw''⟩ := hw'
        subst hw''
        have HBF := hid_intro (HSW.out s)
        go_wp2_with fail
        go_ret
        exact ⟨ret_bool (by rw [HR.out]; simp), HBF.out⟩
      have hr0 : ¬ r < 0 := of_decide_eq_false (by rw [hr]; rfl)
      clear hr
      rcases (show k = 0 ∨ ∃ j, k = j + 1 from by rcases k with _ | j; exact .inl rfl; exact .inr ⟨j, rfl⟩) with rfl | ⟨j, hkj⟩
      · by_cases hmo : xo < fr
        · have HR := hid_intro (HFK.out (by rw [HOK.out]; simp [hmo]))
          refine wp_region_hw S (by kernel_rfl) (by kernel_rfl) HSD.out ?_
          repeat (go_big_quiet_step ((rename_i s; first | (go_at_call 66; refine (HWKS.out s).mono ?_; rintro e w1 ⟨rfl, hb1⟩; exact ⟨rfl, ⟨w1, HSB.out s w1 hb1⟩, rfl⟩) | (go_at_call 67; refine (HATS.out s).mono ?_; rintro e w1 ⟨rfl, hb1⟩; exact ⟨rfl, ⟨w1, HSB.out s w1 hb1⟩, rfl⟩))))
          refine wpQuiet_nil ?_
          intro _ hw'
          obtain ⟨s, hw''⟩ := hw'
          subst hw''
          have HBF := hid_intro (HSW.out s)
          go_wp2_with fail
          go_ret
          exact ⟨ret_bool (by rw [HR.out]; simp), HBF.out⟩
        · have HM2 := hid_intro (HMK.out (by rw [HOK.out]; simp [hmo]))
          refine wp_region_hw S (by kernel_rfl) (by kernel_rfl) HSD.out ?_
          repeat (go_big_quiet_step ((rename_i s; first | (go_at_call 66; refine (HWKS.out s).mono ?_; rintro e w1 ⟨rfl, hb1⟩; exact ⟨rfl, ⟨w1, HSB.out s w1 hb1⟩, rfl⟩) | (go_at_call 67; refine (HATS.out s).mono ?_; rintro e w1 ⟨rfl, hb1⟩; exact ⟨rfl, ⟨w1, HSB.out s w1 hb1⟩, rfl⟩))))
          refine wpQuiet_nil ?_
          intro _ hw'
          obtain ⟨s, hw''⟩ := hw'
          subst hw''
          have HBF := hid_intro (HSW.out s)
          have HAF := hid_intro (HA1.out.below (HSC.out s))
          go_wp2_with fail
          go_roundw
          case rel => exact ⟨0 + 1, by omega, by go_num, HM2, HAF, HBF⟩
          case measure => simp [intOf]; omega
      obtain ⟨b', off', ta', tc', ha', hc', hbo, hbl', d0, d1, d2, d3, d4, d5, d6, d7, _, _⟩ := hIS.at j (by have := HL.out; omega)
      obtain ⟨rfl, rfl⟩ : b = b' ∧ off = off' := by simpa using hbo
      clear hbo
      have HWL2 := hid_intro (HWL.out (ws.getD j Wd.zero) ta' ha' tc' hc')
      have HOK2 : Hid (wok ws ms fr k = (!decide (xo < fr) && WL (ws.getD j Wd.zero))) := hid_intro (by rw [HOK.out]; simp [hkj])
      clear HOK HWL
      generalize WL (ws.getD j Wd.zero) = lb at *
      generalize ws.getD j Wd.zero = Y at *
      obtain ⟨ya, ym, yo, ye, ys, yx, yt, yh⟩ := Y
      dsimp only [wcells] at d0 d1 d2 d3 d4 d5 d6 d7 HWL2
      generalize yt.length = tl' at *
      generalize yh.length = hl' at *
      have hj1 : IntKind.i64.wrap ((k : Int) - 1) = (j : Int) := by rw [IntKind.wrap_i64]; omega
      have hj2 : 0 < k := by omega
      have hj3 : (j : Int) < (ul : Int) := by omega
      clear hkj hIS
      have g0 : ∀ s : HW S, s.w.cell? ⟨b, off + j * 8, none⟩ = some (.string ya) := fun s => ((HSC.out s).cell (p := ⟨b, off + j * 8, none⟩) hbl').trans d0
      have g1 : ∀ s : HW S, s.w.cell? ⟨b, off + j * 8 + 1, none⟩ = some (.string ym) := fun s => ((HSC.out s).cell (p := ⟨b, off + j * 8 + 1, none⟩) hbl').trans d1
      have g2 : ∀ s : HW S, s.w.cell? ⟨b, off + j * 8 + 2, none⟩ = some (.int .i64 yo) := fun s => ((HSC.out s).cell (p := ⟨b, off + j * 8 + 2, none⟩) hbl').trans d2
      have g3 : ∀ s : HW S, s.w.cell? ⟨b, off + j * 8 + 3, none⟩ = some (.int .i64 ye) := fun s => ((HSC.out s).cell (p := ⟨b, off + j * 8 + 3, none⟩) hbl').trans d3
      have g4 : ∀ s : HW S, s.w.cell? ⟨b, off + j * 8 + 4, none⟩ = some (.int .i64 ys) := fun s => ((HSC.out s).cell (p := ⟨b, off + j * 8 + 4, none⟩) hbl').trans d4
      have g5 : ∀ s : HW S, s.w.cell? ⟨b, off + j * 8 + 5, none⟩ = some (.int .i64 yx) := fun s => ((HSC.out s).cell (p := ⟨b, off + j * 8 + 5, none⟩) hbl').trans d5
      have g6 : ∀ s : HW S, s.w.cell? ⟨b, off + j * 8 + 6, none⟩ = some (.slice ta' tl' tc') := fun s => ((HSC.out s).cell (p := ⟨b, off + j * 8 + 6, none⟩) hbl').trans d6
      have g7 : ∀ s : HW S, s.w.cell? ⟨b, off + j * 8 + 7, none⟩ = some (.slice ha' hl' hc') := fun s => ((HSC.out s).cell (p := ⟨b, off + j * 8 + 7, none⟩) hbl').trans d7
      clear d0 d1 d2 d3 d4 d5 d6 d7
      cases lb
      · have HR := hid_intro (HFK.out (by rw [HOK2.out]; simp))
        refine wp_region_hw S (by kernel_rfl) (by kernel_rfl) HSD.out ?_
        repeat (go_big_quiet_step ((rename_i s; first | (go_at_call 66; refine (HWKS.out s).mono ?_; rintro e w1 ⟨rfl, hb1⟩; exact ⟨rfl, ⟨w1, HSB.out s w1 hb1⟩, rfl⟩) | (go_at_call 67; refine (HATS.out s).mono ?_; rintro e w1 ⟨rfl, hb1⟩; exact ⟨rfl, ⟨w1, HSB.out s w1 hb1⟩, rfl⟩) | (go_at_call 68; refine (HWL2.out s.w).mono ?_; rintro e w1 ⟨rfl, hb1⟩; exact ⟨rfl, ⟨w1, HSB.out s w1 hb1⟩, rfl⟩))))
        refine wpQuiet_nil ?_
        intro _ hw'
        obtain ⟨s, hw''⟩ := hw'
        subst hw''
        have HBF := hid_intro (HSW.out s)
        go_wp2_with fail
        go_ret
        exact ⟨ret_bool (by rw [HR.out]; simp), HBF.out⟩
      by_cases hmo : xo < fr
      · have HR := hid_intro (HFK.out (by rw [HOK2.out]; simp [hmo]))
        refine wp_region_hw S (by kernel_rfl) (by kernel_rfl) HSD.out ?_
        repeat (go_big_quiet_step ((rename_i s; first | (go_at_call 66; refine (HWKS.out s).mono ?_; rintro e w1 ⟨rfl, hb1⟩; exact ⟨rfl, ⟨w1, HSB.out s w1 hb1⟩, rfl⟩) | (go_at_call 67; refine (HATS.out s).mono ?_; rintro e w1 ⟨rfl, hb1⟩; exact ⟨rfl, ⟨w1, HSB.out s w1 hb1⟩, rfl⟩) | (go_at_call 68; refine (HWL2.out s.w).mono ?_; rintro e w1 ⟨rfl, hb1⟩; exact ⟨rfl, ⟨w1, HSB.out s w1 hb1⟩, rfl⟩))))
        refine wpQuiet_nil ?_
        intro _ hw'
        obtain ⟨s, hw''⟩ := hw'
        subst hw''
        have HBF := hid_intro (HSW.out s)
        go_wp2_with fail
        go_ret
        exact ⟨ret_bool (by rw [HR.out]; simp), HBF.out⟩
      · have HM2 := hid_intro (HMK.out (by rw [HOK2.out]; simp [hmo]))
        refine wp_region_hw S (by kernel_rfl) (by kernel_rfl) HSD.out ?_
        repeat (go_big_quiet_step ((rename_i s; first | (go_at_call 66; refine (HWKS.out s).mono ?_; rintro e w1 ⟨rfl, hb1⟩; exact ⟨rfl, ⟨w1, HSB.out s w1 hb1⟩, rfl⟩) | (go_at_call 67; refine (HATS.out s).mono ?_; rintro e w1 ⟨rfl, hb1⟩; exact ⟨rfl, ⟨w1, HSB.out s w1 hb1⟩, rfl⟩) | (go_at_call 68; refine (HWL2.out s.w).mono ?_; rintro e w1 ⟨rfl, hb1⟩; exact ⟨rfl, ⟨w1, HSB.out s w1 hb1⟩, rfl⟩))))
        refine wpQuiet_nil ?_
        intro _ hw'
        obtain ⟨s, hw''⟩ := hw'
        subst hw''
        have HBF := hid_intro (HSW.out s)
        have HAF := hid_intro (HA1.out.below (HSC.out s))
        go_wp2_with fail
        go_roundw
        case rel => exact ⟨k + 1, by omega, by go_num, HM2, HAF, HBF⟩
        case measure => simp [intOf]; omega
    · have hlt2 : ¬ (k : Int) < (ul : Int) := by omega
      obtain rfl : k = ul := by omega
      have HR := hid_intro (HY.out (by omega) HK.out)
      have al := HA.out.1
      have a4 : wr.cell? ⟨w.heap.size, 4, none⟩ = some (.slice ua k uc) := HA.out.2 4 (by simp)
      go_wp2_with fail
      clear a4 al HY HF HG HWR HAT HI
      go_loopw [5] (fun z wr => ∃ k9 : Nat, k9 ≤ el ∧ z = .int .i64 k9 ∧ Hid (∀ i, i < k9 → ¬ (es.getD i SeenR.N.zero).n < v) ∧ Hid (Blk w.heap.size [.slice ma ml mc, .slice ca cl cc, .slice sa sl sc, .slice ea el ec, .slice ua k uc, .slice da dl dc, .int .i64 fr] wr) ∧ Hid (Below w.heap.size w wr)) (fun z _ => el - (intOf z).toNat)
      case atStart => exact ⟨0, by omega, rfl, hid_intro (fun i hi => absurd hi (by omega)), HA, HB⟩
      case round =>
        clear HA HB
        obtain ⟨m, hm, rfl, HK2, HA, HB⟩ := hrel
        have al := HA.out.1
        have a3 : wr.cell? ⟨w.heap.size, 3, none⟩ = some (.slice ea el ec) := HA.out.2 3 (by simp)
        have a6 : wr.cell? ⟨w.heap.size, 6, none⟩ = some (.int .i64 fr) := HA.out.2 6 (by simp)
        by_cases hlt : m < el
        · have hlt2 : (m : Int) < (el : Int) := by omega
          obtain ⟨b, off, rfl, hbl, c0, c1, c2⟩ := (HE.out.below HB.out).at m (by have := HLE.out; omega)
          have HGK := hid_intro (HGN.out m hlt)
          have HM9 : Hid (¬ (es.getD m SeenR.N.zero).n < v → ∀ i, i < m + 1 → ¬ (es.getD i SeenR.N.zero).n < v) := hid_intro (fun h i hi => by
            by_cases e : i = m
            · subst e; exact h
            · exact HK2.out i (by omega))
          generalize es.getD m SeenR.N.zero = X at *
          obtain ⟨xi, xn, xs⟩ := X
          dsimp only at c0 c1 c2 HGK HM9
          obtain ⟨S, hS⟩ : ∃ S : World → Prop, ∀ W, S W ↔ Below wr.heap.size wr W := ⟨_, fun _ => Iff.rfl⟩
          have HSC : Hid (∀ s : HW S, Below wr.heap.size wr s.w) := hid_intro (fun s => (hS _).1 s.h)
          have HSW : Hid (∀ s : HW S, Below w.heap.size w s.w) := hid_intro (fun s => HB.out.trans (((hS _).1 s.h).mono HB.out.size))
          have HSB : Hid (∀ (s : HW S) w', Below s.w.heap.size s.w w' → S w') := hid_intro (fun s w' hb => (hS _).2 ((HSC.out s).trans (hb.mono (HSC.out s).size)))
          have HSD : Hid (S wr.drew) := hid_intro ((hS _).2 (Below.refl _ _).drew)
          have hne : Nonempty (HW S) := ⟨⟨_, HSD.out⟩⟩
          have HVK := hid_intro (fun s : HW S => HV.out (by trivial) s.w (HSW.out s))
          have e3 : ∀ s : HW S, s.w.cell? ⟨w.heap.size, 3, none⟩ = some (.slice (some ⟨b, off, none⟩) el ec) := fun s => ((HSC.out s).cell (p := ⟨w.heap.size, 3, none⟩) al).trans a3
          have e6 : ∀ s : HW S, s.w.cell? ⟨w.heap.size, 6, none⟩ = some (.int .i64 fr) := fun s => ((HSC.out s).cell (p := ⟨w.heap.size, 6, none⟩) al).trans a6
          have g1 : ∀ s : HW S, s.w.cell? ⟨b, off + m * 3 + 1, none⟩ = some (.int .i64 xn) := fun s => ((HSC.out s).cell (p := ⟨b, off + m * 3 + 1, none⟩) hbl).trans c1
          clear hS
          by_cases hx : xn < v
          · have HR2 := hid_intro (HGK.out hx)
            go_wp2_with fail
            clear a3 a6 c0 c1 c2 al
            refine wp_region_hw S (by kernel_rfl) (by kernel_rfl) HSD.out ?_
            repeat (go_big_quiet_step ((rename_i s; go_at_call 69; refine (HVK.out s).mono ?_; rintro e w1 ⟨rfl, hb1⟩; exact ⟨rfl, ⟨w1, HSB.out s w1 hb1⟩, rfl⟩)))
            refine wpQuiet_nil ?_
            intro _ hw'
            obtain ⟨s, hw''⟩ := hw'
            subst hw''
            have HB8 := hid_intro (HSW.out s)
            go_wp2_with fail
            go_ret
            exact ⟨ret_bool (by rw [HR.out, HR2.out]; rfl), HB8.out⟩
          · have HM2 := hid_intro (HM9.out (by first | exact hx | omega))
            go_wp2_with fail
            clear a3 a6 c0 c1 c2 al
            refine wp_region_hw S (by kernel_rfl) (by kernel_rfl) HSD.out ?_
            repeat (go_big_quiet_step ((rename_i s; go_at_call 69; refine (HVK.out s).mono ?_; rintro e w1 ⟨rfl, hb1⟩; exact ⟨rfl, ⟨w1, HSB.out s w1 hb1⟩, rfl⟩)))
            refine wpQuiet_nil ?_
            intro _ hw'
            obtain ⟨s, hw''⟩ := hw'
            subst hw''
            have HB8 := hid_intro (HSW.out s)
            have HA8 := hid_intro (HA.out.below (HSC.out s))
            go_wp2_with fail
            go_roundw
            case rel => exact ⟨m + 1, by omega, by go_num, hid_intro (fun i hi => by have := HM2.out i hi; omega), HA8, HB8⟩
            case measure => simp [intOf]; omega
        · have hlt2 : ¬ (m : Int) < (el : Int) := by omega
          obtain rfl : m = el := by omega
          have HR2 := hid_intro (HGY.out (fun i hi => by have := HK2.out i hi; omega))
          go_wp2_with fail
          go_ret
          exact ⟨ret_bool (by rw [HR.out, HR2.out]; rfl), HB.out⟩
end EngR
end Go.Proofs.YtjfmdcdclifpkaaGreatDoor
namespace Go.Proofs.YtjfmdcdclifpkaaGreatDoor
open Go.ChangeShapes Go.WideShapes Go.ChangeAt Go.RowKit
set_option linter.unusedVariables false
namespace EngR
open CatR
theorem at_first (ms : List Me) (t : ByteArray) (n : Nat) : (∃ k, k < n ∧ mN ms k = t ∧ ∀ i, i < k → mN ms i ≠ t) ∨ (∀ i, i < n → mN ms i ≠ t) := by
  induction n with
  | zero => exact .inr (fun i h => absurd h (by omega))
  | succ n ih =>
    rcases ih with ⟨k, hk, h1, h2⟩ | h
    · exact .inl ⟨k, by omega, h1, h2⟩
    · by_cases e : mN ms n = t
      · exact .inl ⟨n, by omega, e, h⟩
      · refine .inr (fun i hi => ?_)
        by_cases q : i = n
        · subst q; exact e
        · exact h i (by omega)
theorem at_ex (ms : List Me) (t : ByteArray) : ∃ r, atB ms t r := by
  rcases at_first ms t ms.length with ⟨k, hk, h1, h2⟩ | h
  · exact ⟨k, .inl ⟨k, hk, rfl, h1, h2⟩⟩
  · exact ⟨-1, .inr ⟨rfl, h⟩⟩
theorem at_one {ms : List Me} {t : ByteArray} {r r' : Int} (h : atB ms t r) (h' : atB ms t r') : r = r' := by
  rcases h with ⟨k, hk, rfl, h1, h2⟩ | ⟨rfl, h⟩ <;> rcases h' with ⟨k', hk', rfl, h1', h2'⟩ | ⟨rfl, h'⟩
  · have a := fun q => h2 k' q h1'
    have b := fun q => h2' k q h1
    rcases Nat.lt_trichotomy k k' with q | q | q
    · exact (b q).elim
    · rw [q]
    · exact (a q).elim
  · exact absurd h1 (h' k hk)
  · exact absurd h1' (h k' hk')
  · rfl
theorem spec_eng (val : Value) (x : Eng) (v : Int) (w : World) (hS : x.Small) (hE : IsEng val x w)
    (hv : 0 ≤ x.fr → x.fr ≤ 2760 → ∀ W, Below w.heap.size w W → Calls Tryz.prog 69 #[.int .i64 x.fr] W fun e w' => e = .returned (.int .i64 v) ∧ Below W.heap.size W w') :
    Calls Tryz.prog 24 #[val] w fun e w' => e = .returned (.bool (engB x v)) ∧ Below w.heap.size w w' := by
  obtain ⟨ma, mc, ca, cc, sa, sc, ea, ec, ua, uc, da, dc, rfl, q1, q2, q3, q4, q5, q6⟩ := hE
  refine (seright_in ma _ mc ca _ cc sa _ sc ea ec ua uc da _ dc x.fr v x.c.ms x.es x.ws (caB x.c) (SeenR.sB x.es) (LedR.lB x.ds) (srcB x.ss) (decide (0 ≤ x.fr ∧ x.fr ≤ 2760)) w q4 hS.el q5 hS.wl ?_ ?_ ?_ ?_ ?_ ?_ ?_ ?_).mono ?_
  · intro W hW
    exact CatR.spec_ca _ x.c W hS.c ⟨ma, mc, ca, cc, rfl, q1.below hW, q2.below hW⟩
  · intro W hW
    exact SeenR.spec_seen ea ec x.es W hS.el hS.es (q4.below hW)
  · intro W hW
    exact LedR.spec_ledger da dc x.ds W hS.dl hS.ds (q6.below hW)
  · intro W hW
    exact spec_srcsA sa sc x.ss W hS.sl hS.ss (q3.below hW)
  · intro W
    exact WinR.sisMonth_any x.fr W
  · intro k hk ta tc ha hc W hW hT hH
    have hk' := hS.ws k hk
    exact WinR.spec_window_right _ ta tc ha hc W hk'.1 hk'.2.1 hk'.2.2.1 hk'.2.2.2.1 hT hH
  · intro t
    obtain ⟨r, hr⟩ := at_ex x.c.ms t
    refine ⟨r, at_sell hr, fun W hW => (spec_at ma mc ca _ cc x.c.ms t W hS.c.ml (q1.below hW)).mono ?_⟩
    rintro e w' ⟨r', rfl, hr', hb⟩
    exact ⟨by rw [at_one hr' hr], hb⟩
  · intro h W hW
    have h4 := of_decide_eq_true h
    exact hv h4.1 h4.2 W hW
  · rintro e w' ⟨rfl, hb⟩
    refine ⟨?_, hb⟩
    unfold engB
    generalize caB x.c = a1
    generalize SeenR.sB x.es = a2
    generalize LedR.lB x.ds = a3
    generalize srcB x.ss = a4
    generalize decide (0 ≤ x.fr ∧ x.fr ≤ 2760) = a5
    generalize winB x.ws x.c.ms x.fr = a6
    generalize goneB x.es v = a7
    cases a1 <;> cases a2 <;> cases a3 <;> cases a4 <;> cases a5 <;> cases a6 <;> cases a7 <;> rfl
/-- A month's first minute, whatever the month: one number for both sides where it is a month. -/
theorem start_num (m : Int) : ∃ v : Int, (0 ≤ m → m ≤ 2760 → ∀ w, DateR.Laid w → Calls Tryz.prog 133 #[.int .i64 m] w fun e w' => e = .returned (.int .i64 v) ∧ Below w.heap.size w w') ∧ (0 ≤ m → m ≤ 2760 → ∀ w, Calls Tryz.prog 69 #[.int .i64 m] w fun e w' => e = .returned (.int .i64 v) ∧ Below w.heap.size w w') := by
  by_cases h : 0 ≤ m ∧ m ≤ 2760
  · obtain ⟨v, h1, h2⟩ := DateR.start_eng m h.1 h.2
    exact ⟨v, fun _ _ => h1, fun _ _ => h2⟩
  · exact ⟨0, fun a b => absurd ⟨a, b⟩ h, fun a b => absurd ⟨a, b⟩ h⟩
end EngR
end Go.Proofs.YtjfmdcdclifpkaaGreatDoor
namespace Go.Proofs.YtjfmdcdclifpkaaGreatDoor
open Go.ChangeShapes Go.WideShapes Go.ChangeAt Go.RowKit
set_option linter.unusedVariables false
namespace NetR
open LinR RowG LtR
theorem all_size {L b : List N} {s : Int} (hL : ∀ y ∈ L, y.i.size ≤ 1048576) (hb : ∀ y ∈ b, y.i.size ≤ 1048576) : ∀ y ∈ all L b s, y.i.size ≤ 1048576 := all_i (fun n => n.size ≤ 1048576) b s hL hb
end NetR
end Go.Proofs.YtjfmdcdclifpkaaGreatDoor
namespace Go.Proofs.YtjfmdcdclifpkaaGreatDoor
open Go.ChangeShapes Go.WideShapes Go.ChangeAt Go.RowKit
set_option linter.unusedVariables false
namespace LedR
open LinR RowG LtR NetR DocR
theorem net_size {a : ByteArray} {m : Int} : ∀ (ds : List D) (L : List N), (∀ d ∈ ds, ∀ e ∈ d.ls, e.i.size ≤ 1048576) → (∀ y ∈ L, y.i.size ≤ 1048576) → ∀ y ∈ ds.foldl (fun L d => bif of a m d then all L d.ls 1 else L) L, y.i.size ≤ 1048576
  | [], L, _, hL => hL
  | d :: ds, L, h, hL => by
    rw [List.foldl_cons]
    refine net_size ds _ (fun d hd => h d (by simp [hd])) ?_
    cases of a m d
    · exact hL
    · exact all_size hL (h d (by simp))
/-- Both answers. -/
def netB (ds : List D) (a : ByteArray) (m : Int) : List N := bif lB ds then clL (net ds a m) else []
theorem name_small {s : ByteArray} (h : NameR.nameB s = true) : s.size ≤ 8000 := by
  unfold NameR.nameB at h
  simp only [decide_eq_true_eq] at h
  omega
theorem net_long {ds : List D} {a : ByteArray} {m : Int} (h : LRight ds) (ha : 8000 < a.size) : net ds a m = [] := by
  refine net_zero ?_
  cases hc : cnt ds a m with
  | zero => rfl
  | succ n =>
    obtain ⟨i, hi, e1, e2⟩ := mem_cnt (ds := ds) (a := a) (m := m) (by omega)
    have h1 := (h.2.1 i hi).1
    unfold dB at h1
    simp only [Bool.and_eq_true] at h1
    have := name_small h1.1
    rw [e1] at this
    omega
theorem netB_len {ds : List D} {a : ByteArray} {m : Int} : (netB ds a m).length ≤ 180 := by
  unfold netB
  cases h : lB ds
  · simp
  · have hr := lB_iff.1 h
    have h1 := (net_facts (ds := ds) ds.length (Nat.le_refl _) hr.2.1 a m).2.1
    rw [List.take_length] at h1
    have h2 := hr.1
    simp only [cond_true, clL]
    cases ovB (net ds a m)
    · simp
    · have h3 := List.length_filter_le nz (net ds a m)
      simp only [cond_true]
      omega
theorem ov_net {ds : List D} (h : LRight ds) (a : ByteArray) (m : Int) : ovB (net ds a m) = true := by
  by_cases hc : cnt ds a m = 0
  · rw [net_zero hc]; rfl
  · obtain ⟨i, hi, rfl, rfl⟩ := mem_cnt hc
    exact h.2.2 i hi
theorem fldR (c : Int) (mb : Option Nat) (w : World) : (Instr.field 139 (.agg #[.int .i64 c, .map mb]) 1).run Tryz.prog w = .ok (.map mb) w := by kernel_rfl
set_option maxRecDepth 100000 in
set_option maxHeartbeats 4000000 in
theorem impl_net (ao : Option Addr) (cap : Nat) (ds : List D) (a : ByteArray) (m : Int) (w : World) (hlen : ds.length ≤ 1048576) (hSm : ∀ d ∈ ds, d.Sm) (hwf : ∀ d ∈ ds, (Lit.int .i64 d.mo).wf = true) (hg : Good a m) (hI : Dcs ao ds w) :
    Calls Tryz.prog 32 #[.slice ao ds.length cap, .string a, .int .i64 m] w fun e w' => ResL w (netB ds a m) e w' := by
  have H1 := hid_intro (irows ao cap ds w hlen hSm hwf hI)
  unfold RowsR at H1
  have HKY := hid_intro (keyP hg)
  have HG := hid_intro hg
  have HSz := hid_intro (net_size (a := a) (m := m) ds [] (fun d hd => (hSm d hd).2.2) (fun y h => by cases h))
  have HNL := hid_intro (fun h : LRight ds => (net_facts (ds := ds) ds.length (Nat.le_refl _) h.2.1 a m).2.1)
  have HT : Hid (netB ds a m = bif lB ds then clL (net ds a m) else []) := rfl
  have HOV := hid_intro (fun h : lB ds = true => ov_net (lB_iff.1 h) a m)
  have HLR := hid_intro (fun h : lB ds = true => lB_iff.1 h)
  have HCL : Hid (clL (net ds a m) = bif ovB (net ds a m) then (net ds a m).filter nz else []) := rfl
  have HZR : Hid (∀ h : cnt ds a m = 0, net ds a m = []) := hid_intro net_zero
  obtain ⟨T, hT0⟩ : ∃ T, netB ds a m = T := ⟨_, rfl⟩
  rw [hT0] at HT ⊢
  obtain ⟨len, hl0⟩ : ∃ len, ds.length = len := ⟨_, rfl⟩
  rw [hl0] at H1 ⊢
  have HL := hid_intro hl0
  clear hI hSm hwf hg hT0 hl0
  go_enter Tryz.func32, Tryz.ntmps32
  go_wp2_with fail
  refine H1.out.mono ?_
  rintro e w1 ⟨hb, ⟨hlb, c, rfl⟩ | ⟨hlb, M, rfl, hrows⟩⟩
  · have HB := hid_intro hb
    have HE : Hid (T = []) := hid_intro (by rw [HT.out, hlb]; rfl)
    clear hb hlb
    go_wp2_with fail
    go_ret
    rw [HE.out]
    exact resL_nil HB.out _ _
  · have HB := hid_intro hb
    have HE : Hid (T = (net ds a m).filter nz) := hid_intro (by rw [HT.out, hlb, cond_true, HCL.out, HOV.out hlb]; rfl)
    have HLR2 := hid_intro (HLR.out hlb)
    obtain ⟨Dm, f, h1, h2, h3, h4⟩ := hrows
    by_cases hc : cnt ds a m = 0
    · have hhas : Maps.has Dm (kP a m) = false := by
        cases hh : Maps.has Dm (kP a m)
        · rfl
        · obtain ⟨a', m', g, e, hn⟩ := h2 _ hh
          obtain ⟨rfl, rfl⟩ := kP_inj HG.out g e
          exact absurd hc hn
      obtain ⟨v, ps, hrun, hv⟩ := h1.lookup keyedP Tryz.underlying131 (zeroR _) (zd := .held (.agg #[.int .i64 0, .map none])) (zp := []) rfl HKY.out
      obtain rfl : v = .agg #[.int .i64 0, .map none] := by
        rw [Maps.atKey_of_not_has hhas] at hv
        simp [RV] at hv
        exact hv.1
      have HLN := hid_intro (lines_nil w1)
      have hfl := fldR 0 none w1
      have HE2 : Hid (T = []) := hid_intro (by rw [HE.out, HZR.out hc]; rfl)
      clear h1 h2 h3 h4 hv hb hlb hhas hc
      go_wp2_with fail
      refine HLN.out.mono ?_
      rintro e w2 ⟨v, rfl, ho, hb2⟩
      have HB2 := hid_intro (HB.out.trans (hb2.mono HB.out.size))
      have HO2 := hid_intro (own_low ho HB.out.size)
      clear ho hb2
      go_wp2_with fail
      go_ret
      rw [HE2.out]
      exact resL_own HO2.out HB2.out
    · obtain ⟨_, hatk, _, _, Dn, M', hM', hNO, hNN⟩ := h3 a m hc
      obtain ⟨v, ps, hrun, hv⟩ := h1.lookup keyedP Tryz.underlying131 (zeroR _) (zd := .held (.agg #[.int .i64 0, .map none])) (zp := []) rfl HKY.out
      obtain rfl : v = .agg #[.int .i64 (cnt ds a m : Nat), .map (some (f a m))] := by
        rw [hatk] at hv
        simp [RV] at hv
        exact hv.1
      have h30 := HLR2.out.1
      have hnl := HNL.out HLR2.out
      rw [List.take_length] at hnl
      have HLN := hid_intro (lines_any (f a m) M' Dn (net ds a m) w1 hNO (by omega) hNN (by omega) HSz.out)
      have hfl := fldR (cnt ds a m : Nat) (some (f a m)) w1
      generalize ((cnt ds a m : Nat) : Int) = cc at *
      generalize f a m = nb at *
      clear h1 h2 h3 h4 hv hb hlb hc hatk hNO hNN
      go_wp2_with fail
      refine HLN.out.mono ?_
      rintro e w2 ⟨v, rfl, ho, hb2⟩
      have HB2 := hid_intro (HB.out.trans (hb2.mono HB.out.size))
      have HO2 := hid_intro (own_low ho HB.out.size)
      clear ho hb2
      go_wp2_with fail
      go_ret
      rw [HE.out]
      exact resL_own HO2.out HB2.out
set_option maxRecDepth 100000 in
set_option maxHeartbeats 4000000 in
theorem snet (ao : Option Addr) (cap : Nat) (ds : List D) (a : ByteArray) (m : Int) (w : World) (hR : LRight ds) (hI : Dcs ao ds w) :
    Calls Tryz.prog 25 #[.slice ao ds.length cap, .string a, .int .i64 m] w fun e w' => ∃ v, e = .returned v ∧ OwnN w' w.heap.size v (clL (net ds a m)) ∧ Below w.heap.size w w' := by
  have H1 := hid_intro (ssum ao cap ds a m w hR.1 hR.2.1 hI)
  have HNL : Hid ((net ds a m).length ≤ 1000) := hid_intro (by have h := (net_facts (ds := ds) ds.length (Nat.le_refl _) hR.2.1 a m).2.1; rw [List.take_length] at h; have := hR.1; omega)
  generalize ds.length = len at *
  generalize net ds a m = L at *
  clear hI hR
  go_enter Tryz.func25, Tryz.ntmps25
  go_wp2_with fail
  refine H1.out.mono ?_
  rintro e w1 ⟨v, rfl, hv, hb1⟩
  have HB1 := hid_intro hb1
  obtain ⟨g, cp, rfl, h1, h2, h3, h4, h5⟩ := hv.open
  have H2 := hid_intro (sclean (some ⟨g, 0, none⟩) cp L w1 (by have := HNL.out; omega) h5)
  clear hv h5 hb1
  generalize L.length = ll at *
  generalize ovB L = rr at *
  go_wp2_with fail
  refine H2.out.mono ?_
  rintro e w2 ⟨v2, rfl, hv2, hb2⟩
  have HB2 := hid_intro (HB1.out.trans (hb2.mono HB1.out.size))
  have HV2 : Hid (OwnN w2 w.heap.size v2 (clL L)) := hid_intro ⟨own_low hv2.1 HB1.out.size, hv2.2⟩
  clear hv2 hb2
  go_wp2_with fail
  go_ret
  exact ⟨_, rfl, HV2.out, HB2.out⟩
end LedR
end Go.Proofs.YtjfmdcdclifpkaaGreatDoor
