/-
  SeenDrop on both sides: those whose minute is not below a number. The condition: at most 1048576 entries, whose Ids have at most 1048576 bytes.
-/
import Derived.Test.YtbhabplchcigfaaEnK
namespace Go.Proofs.Ytbhabplchcigfaa
open Go.ChangeShapes Go.WideShapes Go.ChangeAt Go.RowKit
set_option linter.unusedVariables false
namespace SeenR
open RowG
/-- What is kept. -/
def dropL (es : List N) (b : Int) : List N := bif sB es then es.filter (fun e => decide (b ≤ e.n)) else []
theorem kept_any (x : N) (bb : Nat) (b : Int) (W : World) (hc : W.cell? ⟨bb, 0, none⟩ = some (.int .i64 b)) (hl : bb < W.heap.size) :
    Calls Try.prog 30 (#[.agg #[.string x.i, .int .i64 x.n, .int .i64 x.s]] ++ #[.pointer (some ⟨bb, 0, none⟩)]) W fun e w' => e = .returned (.bool (decide (b ≤ x.n))) ∧ Below W.heap.size W w' := by
  obtain ⟨xi, xn, xs⟩ := x
  by_cases h : b ≤ xn
  · rw [decide_eq_true h]
    show Calls Try.prog 30 #[.agg #[.string xi, .int .i64 xn, .int .i64 xs], .pointer (some ⟨bb, 0, none⟩)] W _
    go_enter Try.func30, Try.ntmps30
    go_wp2_with fail
    go_ret
    exact ⟨rfl, (Below.refl _ _).alloc (Nat.le_refl _) _⟩
  · rw [decide_eq_false h]
    show Calls Try.prog 30 #[.agg #[.string xi, .int .i64 xn, .int .i64 xs], .pointer (some ⟨bb, 0, none⟩)] W _
    go_enter Try.func30, Try.ntmps30
    go_wp2_with fail
    go_ret
    exact ⟨rfl, (Below.refl _ _).alloc (Nat.le_refl _) _⟩
/-- What is handed back. -/
def Res (w : World) (l : List N) (e : Ending) (w' : World) : Prop := ∃ ao cap, e = .returned (.slice ao l.length cap) ∧ MadeG 3 N.cells N.zero w.heap.size ao l w' ∧ Below w.heap.size w w'
theorem own_low {w : World} {base base' e size n : Nat} {v : Value} {xs : List Value} (h : w.ownsRow base e size v n xs) (hb : base' ≤ base) : w.ownsRow base' e size v n xs := by
  refine ⟨h.1, ?_⟩
  rcases h.2 with hn | ⟨g, cap, cur, rfl, h1, rest⟩
  · exact .inl hn
  · exact .inr ⟨g, cap, cur, rfl, by omega, rest⟩
theorem res_own {w w' : World} {l : List N} {v : Value} (h : w'.ownsRow w.heap.size 40 3 v l.length (cellsAll N.cells l)) (hb : Below w.heap.size w w') : Res w l (.returned v) w' := by
  obtain ⟨ao, cap, rfl, hm⟩ := own_made (z := N.zero) N.len h
  exact ⟨ao, cap, rfl, hm, hb⟩
set_option maxHeartbeats 4000000 in
theorem impl_drop (ao : Option Addr) (cap : Nat) (es : List N) (b : Int) (w : World) (hlen : es.length ≤ 1048576) (hS : ∀ e ∈ es, e.i.size ≤ 1048576) (hI : Ens ao es w) :
    Calls Try.prog 7 #[.slice ao es.length cap, .int .i64 b] w fun e w' => Res w (dropL es b) e w' := by
  have H1 := hid_intro (fun W (hW : Below w.heap.size w W) => impl_seen ao cap es W hlen hS (hI.below hW))
  have HR : Hid (sB es = false → dropL es b = []) := hid_intro (fun h => by unfold dropL; rw [h]; rfl)
  have HR1 : Hid (sB es = true → dropL es b = es.filter (fun e => decide (b ≤ e.n)) ∧ es.length ≤ 40) := hid_intro (fun h => ⟨by unfold dropL; rw [h]; rfl, (sB_iff.1 h).1⟩)
  have HA : Hid (Below w.heap.size w (w.alloc (.cells #[.int .i64 b] 2))) := hid_intro ((Below.refl _ _).alloc (Nat.le_refl _) _)
  have he : ∀ args w, (callFunc 30 args).run Try.prog w = .ok (.enter 30 args) w := fun args w => by simp [go_sem]
  have HK : Hid (∀ W, Below w.heap.size w W → W.cell? ⟨w.heap.size, 0, none⟩ = some (.int .i64 b) → w.heap.size < W.heap.size → es.length ≤ 40 → Calls Try.prog 29 #[.slice ao es.length cap, .func (.func 30) #[] #[.pointer (some ⟨w.heap.size, 0, none⟩)]] W fun e w' => ∃ v, e = .returned v ∧ w'.ownsRow W.heap.size 40 3 v (es.filter (fun e => decide (b ≤ e.n))).length (cellsAll N.cells (es.filter (fun e => decide (b ≤ e.n)))) ∧ Below W.heap.size W w') :=
    hid_intro (fun W hW hc hl h40 => keep_any ao cap es _ _ _ W h40 hS (hI.below hW) (fun x W' hW' => kept_any x w.heap.size b W' ((hW'.cell (p := ⟨w.heap.size, 0, none⟩) hl).trans hc) (by have := hW'.size; omega)) he)
  generalize dropL es b = D at *
  generalize sB es = r at *
  generalize es.filter (fun e => decide (b ≤ e.n)) = F at *
  generalize es.length = len at *
  clear hI hS he
  cases r
  · have HD := hid_intro (HR.out rfl)
    go_enter Try.func7, Try.ntmps7
    go_wp2_with fail
    refine (H1.out _ HA.out).mono ?_
    rintro e w1 ⟨rfl, hb1⟩
    have HB1 := hid_intro (HA.out.trans (hb1.mono HA.out.size))
    clear hb1
    go_wp2_with fail
    go_ret
    rw [HD.out]
    exact ⟨none, 0, rfl, made_nil _ _ _, HB1.out⟩
  · obtain ⟨hD, h40⟩ := HR1.out rfl
    have HD := hid_intro hD
    go_enter Try.func7, Try.ntmps7
    go_wp2_with fail
    refine (H1.out _ HA.out).mono ?_
    rintro e w1 ⟨rfl, hb1⟩
    have HB1 := hid_intro (HA.out.trans (hb1.mono HA.out.size))
    have hc := hb1.cell (p := ⟨w.heap.size, 0, none⟩) (by simp)
    have hl : w.heap.size < w1.heap.size := by have := hb1.size; simp at this; omega
    simp [go_sem] at hc
    have HC := hid_intro hc
    clear hb1 hc
    go_wp2_with fail
    refine (HK.out _ HB1.out HC.out hl h40).mono ?_
    rintro e w2 ⟨v, rfl, ho, hb2⟩
    have HB2 := hid_intro (HB1.out.trans (hb2.mono HB1.out.size))
    have HO := hid_intro (own_low ho HB1.out.size)
    clear ho hb2
    go_wp2_with fail
    go_ret
    rw [HD.out]
    exact res_own HO.out HB2.out
theorem filter_more (p : N → Bool) (xs : List N) (k : Nat) (h : k < xs.length) : (xs.take (k + 1)).filter p = (xs.take k).filter p ++ (bif p (xs.getD k N.zero) then [xs.getD k N.zero] else []) := by
  rw [take_more (z := N.zero) xs k h, List.filter_append]
  generalize xs.getD k N.zero = X
  cases hr : p X <;> simp [hr]
theorem own_empty (w : World) (base e size : Nat) (hb : base ≤ w.heap.size) : (w.alloc (.cells #[] e)).ownsRow base e size (.slice (some ⟨w.heap.size, 0, none⟩) 0 0) 0 [] :=
  World.ownsRow_made w #[] 0 hb (by unfold maxLen; omega) (by simp)
theorem three_cells (x : N) (W : World) : ∀ (i : Nat) u, (N.cells x)[i]? = some u → (W.alloc (.cells #[.string x.i, .int .i64 x.n, .int .i64 x.s] 40)).cell? ((⟨W.heap.size, 0, none⟩ : Addr).add i) = some u := by
  intro i u hx
  have hx2 : i < 3 := by
    have := (List.getElem?_eq_some_iff.1 hx).1
    simpa [N.cells] using this
  match i, hx2, hx with
  | 0, _, hx => simp [N.cells] at hx; subst hx; simp [Addr.add, go_sem]
  | 1, _, hx => simp [N.cells] at hx; subst hx; simp [Addr.add, go_sem]
  | 2, _, hx => simp [N.cells] at hx; subst hx; simp [Addr.add, go_sem]
set_option maxRecDepth 100000 in
set_option maxHeartbeats 4000000 in
theorem spec_drop0 (ao : Option Addr) (cap : Nat) (es : List N) (b : Int) (w : World) (hlen : es.length ≤ 40) (hI : Ens ao es w) :
    Calls Try.prog 34 #[.slice ao es.length cap, .int .i64 b] w fun e w' => ∃ v, e = .returned v ∧ w'.ownsRow w.heap.size 40 3 v (es.filter (fun e => decide (b ≤ e.n))).length (cellsAll N.cells (es.filter (fun e => decide (b ≤ e.n)))) ∧ Below w.heap.size w w' := by
  obtain ⟨i0, hi, hz0, hz1, hz2⟩ := info_parts infoN
  have HI := hid_intro hI
  obtain ⟨len, hl⟩ : ∃ len, len = es.length := ⟨_, rfl⟩
  rw [← hl] at hlen ⊢
  have HL := hid_intro hl
  have HE := hid_intro (own_empty w w.heap.size 40 3 (Nat.le_refl _))
  clear hI hl
  go_enter Try.func34, Try.ntmps34
  go_wp2_with fail
  go_loopw [5, 6] (fun v z wr => ∃ k : Nat, k ≤ len ∧ z = .int .i64 k ∧ Hid (wr.ownsRow w.heap.size 40 3 v ((es.take k).filter (fun e => decide (b ≤ e.n))).length (cellsAll N.cells ((es.take k).filter (fun e => decide (b ≤ e.n))))) ∧ Hid (Below w.heap.size w wr)) (fun v z _ => len - (intOf z).toNat)
  case atStart => exact ⟨0, by omega, rfl, HE, hid_intro ((Below.refl _ _).alloc (Nat.le_refl _) _)⟩
  case round =>
    obtain ⟨k, hk, rfl, HO, HB⟩ := hrel
    by_cases hlt : k < len
    · have hlt2 : (k : Int) < (len : Int) := by omega
      obtain ⟨b', off, rfl, hbl, c0, c1, c2⟩ := (HI.out.below HB.out).at k (by have := HL.out; omega)
      have HF : Hid ((es.take (k + 1)).filter (fun e => decide (b ≤ e.n)) = (es.take k).filter (fun e => decide (b ≤ e.n)) ++ (bif decide (b ≤ (es.getD k N.zero).n) then [es.getD k N.zero] else [])) := hid_intro (filter_more (fun e => decide (b ≤ e.n)) es k (by have := HL.out; omega))
      have HLF : Hid (((es.take k).filter (fun e => decide (b ≤ e.n))).length ≤ 40) := hid_intro (by
        have h1 := List.length_filter_le (fun e => decide (b ≤ e.n)) (es.take k)
        have h2 := List.length_take_le k es
        omega)
      obtain ⟨F, hF⟩ : ∃ F, F = (es.take k).filter (fun e => decide (b ≤ e.n)) := ⟨_, rfl⟩
      rw [← hF] at HO HF HLF
      clear hF
      generalize es.getD k N.zero = X at *
      obtain ⟨xi, xn, xs⟩ := X
      dsimp only at HF c0 c1 c2
      by_cases hq : b ≤ xn
      · rw [decide_eq_true hq, cond_true] at HF
        go_wp2_with (at_builtin; refine wpList_append_own _ rfl _ _ 23 rfl w.heap.size 40 i0 (.agg #[.string ⟨#[]⟩, .int .i64 0, .int .i64 0]) 3 32 Try.underlying23 hi hz0 hz1 hz2 rfl (by decide) _ _ _ rfl (HO.out.alloc _) ⟨wr.heap.size, 0, none⟩ 1 1 (N.cells ⟨xi, xn, xs⟩) rfl rfl ?d1 ?d2 ?d3 ?d4 ?d5 ?_)
        case d1 => exact three_cells ⟨xi, xn, xs⟩ wr
        case d2 =>
          intro u hu
          simp only [N.cells, List.mem_cons, List.not_mem_nil, or_false] at hu
          rcases hu with rfl | rfl | rfl <;> rfl
        case d3 => unfold maxLen; have := HLF.out; omega
        case d4 => have := HLF.out; omega
        case d5 => have h1 := HB.out.size; simp; omega
        intro v' w4 hown hgrow hne
        have hob : ∀ c, u5.ownBlock = some c → w.heap.size ≤ c := fun c hc => (HO.out.lt c hc).1
        have HO4 : Hid (w4.ownsRow w.heap.size 40 3 v' (F ++ [(⟨xi, xn, xs⟩ : N)]).length (cellsAll N.cells (F ++ [(⟨xi, xn, xs⟩ : N)]))) := hid_intro (by rw [cellsAll_app, List.length_append]; exact hown)
        have HB4 : Hid (Below w.heap.size w w4) := hid_intro ((HB.out.alloc HB.out.size _).grown hgrow (HB.out.alloc HB.out.size _).size (fun c e => hob c e))
        clear hown hgrow hne hob
        go_wp2_with fail
        go_roundw
        case rel => exact ⟨k + 1, by omega, by go_num, hid_intro (by rw [HF.out]; exact HO4.out), HB4⟩
        case measure => simp [intOf]; omega
      · rw [decide_eq_false hq, cond_false, List.append_nil] at HF
        go_wp2_with fail
        go_roundw
        case rel => exact ⟨k + 1, by omega, by go_num, hid_intro (by rw [HF.out]; exact HO.out), HB⟩
        case measure => simp [intOf]; omega
    · have hlt2 : ¬ (k : Int) < (len : Int) := by omega
      obtain rfl : k = len := by omega
      have HE : Hid (es.take k = es) := hid_intro (List.take_of_length_le (by have := HL.out; omega))
      rw [HE.out] at HO
      go_wp2_with fail
      go_ret
      exact ⟨_, rfl, HO.out, HB.out⟩
theorem drop_no {es : List N} {b : Int} (h : sB es = false) : dropL es b = [] := by unfold dropL; rw [h]; rfl
set_option maxHeartbeats 4000000 in
theorem spec_drop (ao : Option Addr) (cap : Nat) (es : List N) (b : Int) (w : World) (hlen : es.length ≤ 1048576) (hS : ∀ e ∈ es, e.i.size ≤ 1048576) (hI : Ens ao es w) :
    Calls Try.prog 11 #[.slice ao es.length cap, .int .i64 b] w fun e w' => Res w (dropL es b) e w' := by
  by_cases h4 : 400 < es.length
  · have HD := hid_intro (drop_no (b := b) (sB_long (es := es) (by omega)))
    generalize dropL es b = D at *
    have h4' : (400 : Int) < (es.length : Int) := by omega
    generalize es.length = len at *
    clear hI hS
    go_enter Try.func11, Try.ntmps11
    go_wp2_with fail
    go_ret
    rw [HD.out]
    exact ⟨_, _, rfl, made_nil _ _ _, (Below.refl _ _).alloc (Nat.le_refl _) _⟩
  have h4' : ¬ (400 : Int) < (es.length : Int) := by omega
  have H1 := hid_intro (spec_seen ao cap es w hlen hS hI)
  have HR : Hid (sB es = false → dropL es b = []) := hid_intro drop_no
  have HR1 : Hid (sB es = true → dropL es b = es.filter (fun e => decide (b ≤ e.n)) ∧ es.length ≤ 40) := hid_intro (fun h => ⟨by unfold dropL; rw [h]; rfl, (sB_iff.1 h).1⟩)
  have HK := hid_intro (fun W (hW : Below w.heap.size w W) h40 => spec_drop0 ao cap es b W h40 (hI.below hW))
  generalize dropL es b = D at *
  generalize sB es = r at *
  generalize es.filter (fun e => decide (b ≤ e.n)) = F at *
  generalize es.length = len at *
  clear hI hS
  cases r
  · have HD := hid_intro (HR.out rfl)
    go_enter Try.func11, Try.ntmps11
    go_wp2_with fail
    refine (H1.out).mono ?_
    rintro e w1 ⟨rfl, hb1⟩
    have HB1 := hid_intro hb1
    clear hb1
    go_wp2_with fail
    go_ret
    rw [HD.out]
    exact ⟨_, _, rfl, made_nil _ _ _, HB1.out.alloc HB1.out.size _⟩
  · obtain ⟨hD, h40⟩ := HR1.out rfl
    have HD := hid_intro hD
    go_enter Try.func11, Try.ntmps11
    go_wp2_with fail
    refine (H1.out).mono ?_
    rintro e w1 ⟨rfl, hb1⟩
    have HB1 := hid_intro hb1
    clear hb1
    go_wp2_with fail
    refine (HK.out _ HB1.out h40).mono ?_
    rintro e w2 ⟨v, rfl, ho, hb2⟩
    have HB2 := hid_intro (HB1.out.trans (hb2.mono HB1.out.size))
    have HO := hid_intro (own_low ho HB1.out.size)
    clear ho hb2
    go_wp2_with fail
    go_ret
    rw [HD.out]
    exact res_own HO.out HB2.out
end SeenR
end Go.Proofs.Ytbhabplchcigfaa
