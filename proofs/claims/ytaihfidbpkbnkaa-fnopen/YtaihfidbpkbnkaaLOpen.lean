/-
  FnOpen: for all bytes the law's call returns true, and the bytes read as they did: the next open day of a drawn day and list is not ahead, no free day, and all between are free days. No condition.
-/
import Derived.Test.YtaihfidbpkbnkaaDrawOpen2
import Derived.Test.YtaihfidbpkbnkaaOpenMath
import Derived.ChangeOld
namespace Go.Proofs.Ytaihfidbpkbnkaa
open Go.ChangeShapes Go.WideShapes Go.ChangeAt Go.RowKit
set_option linter.unusedVariables false
namespace FnOpenL
open DrawR
/-- What is known of a day and a list. -/
structure Known (d : Int) (ao : Option Addr) (len cap : Nat) (zs : List Int) (n : Int) (q : Bool) : Prop where
  ispec : ∀ w, DateR.Ints ao len zs w → Calls Try.prog 6 #[.int .i64 d, .slice ao len cap] w fun e w' => e = .returned (.int .i64 n) ∧ DateR.Drawn w w'
  iimpl : ∀ w, DateR.Ints ao len zs w → Calls Try.prog 5 #[.int .i64 d, .slice ao len cap] w fun e w' => e = .returned (.int .i64 n) ∧ w' = w
  fspec : ∀ w, DateR.Ints ao len zs w → Calls Try.prog 8 #[.int .i64 d, .slice ao len cap] w fun e w' => e = .returned (.bool q) ∧ DateR.Drawn w w'
  fimpl : ∀ w, DateR.Ints ao len zs w → Calls Try.prog 7 #[.int .i64 d, .slice ao len cap] w fun e w' => e = .returned (.bool q) ∧ w' = w
  pos : 0 < n → d ≤ n ∧ 0 ≤ d ∧ n ≤ 100000 ∧ n - d ≤ 91 ∧ (∀ w, DateR.Ints ao len zs w → Calls Try.prog 7 #[.int .i64 n, .slice ao len cap] w fun e w' => e = .returned (.bool false) ∧ w' = w) ∧ (∀ k w, d ≤ k → k < n → DateR.Ints ao len zs w → Calls Try.prog 7 #[.int .i64 k, .slice ao len cap] w fun e w' => e = .returned (.bool true) ∧ w' = w)
theorem known (d : Int) (ao : Option Addr) (len cap : Nat) (zs : List Int) (hz : zs.length = len) (hlen : len ≤ 1048576) : ∃ n q, Known d ao len cap zs n q := by
  obtain ⟨n, hn⟩ := DateR.next_is d zs
  refine ⟨n, DateR.freeDayB d zs, fun w h => DateR.spec_nextopen d ao len cap zs w hlen h n hn, fun w h => DateR.impl_nextopen d ao len cap zs w h n hn, fun w h => DateR.spec_freeday d ao len cap zs w hlen h, fun w h => DateR.impl_freeday d ao len cap zs w hlen h, fun h0 => ?_⟩
  rcases hn with ⟨_, rfl⟩ | ⟨_, _, rfl⟩ | ⟨h1, h2, h3, N, hN, rfl⟩
  · omega
  · omega
  · have hd := of_decide_eq_true h2
    split at h0
    case isFalse => omega
    case isTrue hle =>
      rw [if_pos hle]
      have hnear := DateR.near zs d N hd.1 h3 hN hle
      obtain ⟨a1, a2, a3, a4⟩ := hN
      refine ⟨a1, hd.1, hle, hnear, fun w h => ?_, fun k w hk1 hk2 h => ?_⟩
      · have := DateR.impl_freeday N ao len cap zs w hlen h
        rw [show DateR.freeDayB N zs = false by unfold DateR.freeDayB; rw [show DateR.isFreeB N zs = false from a4 hle, Bool.and_false]] at this
        exact this
      · have := DateR.impl_freeday k ao len cap zs w hlen h
        rw [show DateR.freeDayB k zs = true by unfold DateR.freeDayB; rw [show DateR.isFreeB k zs = true from a3 k hk1 hk2, h3, decide_eq_true (show 0 ≤ k ∧ k ≤ 100000 by omega)]; rfl] at this
        exact this
set_option maxRecDepth 100000 in
set_option maxHeartbeats 8000000 in
theorem law_in (ac : Option Addr) (lc cc : Nat) (w : World) (hc : lc ≤ 1048576) (hBc : Bytes ac lc w) :
    Calls Try.prog 3 #[.slice ac lc cc] w fun e w' => e = .returned (.bool true) ∧ Below w.heap.size w w' := by
  have H1 := hid_intro (dopen_any ac lc cc w hc hBc)
  have hc2 : ¬ (1048576 : Int) < (lc : Int) := by omega
  clear hBc hc
  go_enter Try.func3, Try.ntmps3
  go_wp2_with fail
  refine H1.out.mono ?_
  rintro e w1 ⟨⟨d, b, len, cap, zs, rfl, hlen, hI⟩, hb1⟩
  have HB1 := hid_intro hb1
  have HI := hid_intro hI
  obtain ⟨n, q, hK⟩ := known d (some ⟨b, 0, none⟩) len cap zs hI.1 (by omega)
  have HK := hid_intro hK
  clear hb1 hI hK H1 hlen
  go_wp2_with fail
  refine (HK.out.iimpl _ HI.out).mono ?_
  rintro e w2 ⟨rfl, rfl⟩
  go_wp2_with fail
  refine (HK.out.ispec _ HI.out).mono ?_
  rintro e w3 ⟨rfl, hd3⟩
  have HI3 := hid_intro (hd3.ints HI.out)
  have HB3 := hid_intro (HB1.out.trans (hd3.bel.mono HB1.out.size))
  clear hd3
  go_wp2_with fail
  refine (HK.out.fimpl _ HI3.out).mono ?_
  rintro e w4 ⟨rfl, rfl⟩
  go_wp2_with fail
  refine (HK.out.fspec _ HI3.out).mono ?_
  rintro e w5 ⟨rfl, hd5⟩
  have HI5 := hid_intro (hd5.ints HI3.out)
  have HB5 := hid_intro (HB3.out.trans (hd5.bel.mono HB3.out.size))
  clear hd5 HI HI3 HB1 HB3
  by_cases hn : 0 < n
  · obtain ⟨p1, p2, p3, p4, p5, p6⟩ := HK.out.pos hn
    have P5 := hid_intro p5
    have P6 := hid_intro p6
    have hn2 : ¬ n ≤ 0 := by omega
    have hnd : ¬ n < d := by omega
    have hnd2 : ¬ 200 < n - d := by omega
    have hnd3 : wrap64 (n - d) = n - d := by unfold wrap64; omega
    clear p5 p6
    cases q
    all_goals
      go_wp2_with fail
      refine (P5.out _ HI5.out).mono ?_
      rintro e w6 ⟨rfl, rfl⟩
      go_wp2_with fail
      go_loop [6] (fun z => ∃ k : Int, z = .int .i64 k ∧ d ≤ k ∧ k ≤ n) (fun z => (n - intOf z).toNat)
      case atStart => exact ⟨d, rfl, Int.le_refl _, p1⟩
      case round =>
        obtain ⟨k, rfl, hk1, hk2⟩ := hrel
        by_cases hlt : k < n
        · have k0 : 0 ≤ k := by omega
          have k1 : k ≤ 100000 := by omega
          go_wp2_with fail
          refine (P6.out k _ hk1 hlt HI5.out).mono ?_
          rintro e w7 ⟨rfl, rfl⟩
          go_wp2_with fail
          go_round
          case rel => exact ⟨k + 1, rfl, by omega, by omega⟩
          case measure => simp [intOf]; omega
        · go_wp2_with fail
          go_ret
          exact ⟨rfl, HB5.out⟩
  · have hn2 : n ≤ 0 := by omega
    cases q
    all_goals
      go_wp2_with fail
      refine (HK.out.ispec _ HI5.out).mono ?_
      rintro e w6 ⟨rfl, hd6⟩
      have HI6 := hid_intro (hd6.ints HI5.out)
      have HB6 := hid_intro (HB5.out.trans (hd6.bel.mono HB5.out.size))
      clear hd6
      go_wp2_with fail
      refine (HK.out.fimpl _ HI6.out).mono ?_
      rintro e w7 ⟨rfl, rfl⟩
      go_wp2_with fail
      refine (HK.out.fspec _ HI6.out).mono ?_
      rintro e w8 ⟨rfl, hd8⟩
      have HB8 := hid_intro (HB6.out.trans (hd8.bel.mono HB6.out.size))
      clear hd8
      go_wp2_with fail
      go_ret
      exact ⟨rfl, HB8.out⟩
theorem walk (a0 : Option Addr) (len0 cap0 : Nat) (z0 : List Int) (w : World) (w0 : IsRow .u8 w a0 len0 cap0 z0) :
    Calls Try.prog 3 #[.slice a0 len0 cap0] w fun e w' => e = .returned (.bool true) ∧ Below w.heap.size w w' := by
  have l0 := w0.len
  unfold maxLen at l0
  by_cases h0 : len0 ≤ 1048576
  · exact law_in a0 len0 cap0 w h0 w0.bytes
  · have q0 : (1048576 : Int) < (len0 : Int) := by omega
    clear w0
    go_enter Try.func3, Try.ntmps3
    go_wp2
    go_ret
    exact ⟨rfl, Below.refl _ _⟩
theorem laidOut : laidOutB Try.prog = true := by kernel_rfl
theorem own : ownKnob Try.prog.godebug = none := by kernel_rfl
set_option maxRecDepth 100000 in
theorem lifted (os : Os) (started : os.Started) (H : Type) (enc : TypeId × Value → H) :
    ReturnsInHanded {} Try.checked os 3 .any (Rows.fnOpenSpec.pre6 enc Try.prog Try.f3 Rows.fnOpenRow.domain false) (Rows.fnOpenSpec.post enc Try.prog Try.f3 false true false false) := by
  refine returnsInHanded_of_change (C := Try.checked) own started (by kernel_rfl) Try.func3
    (ChangeSpec.witness6 (enc := enc) (C := Try.checked) false ⟨#[], #[.slice none 0 0], []⟩ 8 (by kernel_rfl) (by kernel_rfl) (by kernel_rfl) (by kernel_rfl)) ?_
  intro W base args ds gs before hval0 hW hcnd _
  have hval : ∀ (j : Nat) t v, Try.f3.params[j]? = some t → args[j]? = some v → Value.okWide Try.prog W .any base t v := hval0
  have hW' := hW
  obtain ⟨p, q, hA0, hV, rfl, hfz, hnd⟩ := hW
  have hA : DataW.TrodAll enc Try.prog W 0 (fun _ => true) true Try.f3.params.toList args.toList ds p := hA0
  rw [Try.params3] at hA hval
  obtain ⟨v0, vs0, d0, ds0, p0, q0, hargs, rfl, rfl, h0, r0⟩ := trodAll_cons hA
  obtain ⟨rfl, rfl, rfl⟩ := trodAll_nil r0
  obtain rfl : args = #[v0] := by cases args; simp_all
  obtain ⟨rfl, rfl⟩ := trodVars_none hV
  obtain ⟨a0, len0, cap0, rfl⟩ := okWide_slice Try.underlying22 (hval 0 22 v0 rfl rfl)
  have k0 := h0
  have lt0 : ∀ x ∈ p0, x.block < W.heap.size := by obtain ⟨m, hm⟩ := k0; exact DataW.trod_lt m _ _ _ hm
  obtain ⟨z0, w0⟩ : ∃ zs, IsRow .u8 W a0 len0 cap0 zs := by
    obtain ⟨fuel, hf⟩ := h0
    rcases open_ints Try.underlying22 Try.underlying5 (by kernel_rfl) hf with ⟨hcs, _⟩ | ⟨x, l, c, zs, hcs, _, hl, hm, hz, _, hcell, hwz⟩
    · simp [Value.cells] at hcs
      obtain ⟨rfl, rfl, rfl⟩ := hcs
      exact ⟨[], .inl ⟨rfl, rfl, rfl, rfl⟩⟩
    · simp [Value.cells] at hcs
      obtain ⟨rfl, rfl, rfl⟩ := hcs
      exact ⟨zs, .inr ⟨_, rfl, hl, hm, by simpa using hz, hcell, hwz⟩⟩
  clear hA0 hval0
  refine (walk a0 len0 cap0 z0 W w0).mono fun e W' ⟨he, bel⟩ => ?_
  subst he
  exact ⟨_, rfl, _, _, _, [], _, [], hW', trodAll_mk1 (shut_bool Try.underlying4 _), (trodAll_cons_mk (Below.trod laidOut (by kernel_rfl) (of_decide_eq_true (by kernel_rfl)) k0 bel lt0) trodAll_mk0), rfl, bel.frame _, fun h => by cases h⟩

theorem over : Rows.fnOpenRow.holds Try.pinned (OpenSpec.ofChange Rows.fnOpenSpec) :=
  OpenClaim.holds_of_wide 3 Try.f3 rfl rfl rfl rfl rfl rfl rfl ⟨rfl, rfl, rfl, rfl, rfl⟩ rfl rfl rfl rfl rfl (by kernel_rfl) Try.func3 (by kernel_rfl)
    (of_decide_eq_true (by kernel_rfl)) (by unfold Func.isWrapper; first | (rw [if_pos (by decide +kernel)]; kernel_rfl) | (rw [if_neg (by decide +kernel)]; exact ⟨rfl, rfl⟩))
    (fun os started H enc _ => lifted os started H enc)


end FnOpenL
/-- THE STATEMENT -/
theorem fnOpen_holds : Rows.FnOpenSaid := FnOpenL.over
#print axioms fnOpen_holds
end Go.Proofs.Ytaihfidbpkbnkaa
