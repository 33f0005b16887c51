/-
  Rate and RateBetween: the program's side. The condition: the program's own error stands in its variable.
-/
import Derived.Test.YtnhjodlcdfkpnaaDoorRtI
namespace Go.Proofs.YtnhjodlcdfkpnaaDoor
open Go.ChangeShapes Go.WideShapes Go.ChangeAt Go.RowKit
set_option linter.unusedVariables false
namespace CatR
open FixR (In Laid Thrown out reckoned_ok reckoned_over)
theorem rO_in {m : Me} {u : Int} (h : rt m u ≤ 1000000000000000) : rO m u = (rt m u, 0) := if_pos h
theorem rO_over {m : Me} {u : Int} (h : ¬ rt m u ≤ 1000000000000000) : rO m u = (0, 12) := if_neg h
set_option maxRecDepth 100000 in
set_option maxHeartbeats 4000000 in
theorem one_call (v : Value) (m : Me) (u : Int) (p q : Nat) (w : World) (hL : Laid w) (hR : MRight m) (hu : 0 ≤ u ∧ u ≤ 1000000000000) (hM : IsMe v m w) (hv : ∃ cs : List Value, v = .agg cs.toArray ∧ cs.length = 6 ∧ Blk p cs w) (hq : w.cell? ⟨q, 0, none⟩ = some (.int .i64 u)) (hql : q < w.heap.size) :
    Calls Tryd.prog 43 #[.pointer (some ⟨p, 0, none⟩), .pointer (some ⟨q, 0, none⟩)] w fun e w' => May (rt m u) e ∧ Below w.heap.size w w' := by
  have H := hid_intro (impl_micros v m u w hL hR hu hM)
  obtain ⟨ta, tc, rfl, hT⟩ := hM
  obtain ⟨cs, hcs, hlen, hB⟩ := hv
  obtain rfl : cs = [.string m.n, .int .i64 m.g, .bool m.wh, .int .i64 m.f, .int .i64 m.l, .slice ta m.ts.length tc] := by
    have := congrArg (fun v => match v with | .agg a => a.toList | _ => []) hcs
    simpa using this.symm
  have hl := hB.1
  have c0 : w.cell? ⟨p, 0, none⟩ = some (.string m.n) := hB.2 0 (by simp)
  have c1 : w.cell? ⟨p, 1, none⟩ = some (.int .i64 m.g) := hB.2 1 (by simp)
  have c2 : w.cell? ⟨p, 2, none⟩ = some (.bool m.wh) := hB.2 2 (by simp)
  have c3 : w.cell? ⟨p, 3, none⟩ = some (.int .i64 m.f) := hB.2 3 (by simp)
  have c4 : w.cell? ⟨p, 4, none⟩ = some (.int .i64 m.l) := hB.2 4 (by simp)
  have c5 : w.cell? ⟨p, 5, none⟩ = some (.slice ta m.ts.length tc) := hB.2 5 (by simp)
  clear hT hL hR hu hcs hlen hB
  generalize rt m u = R at *
  obtain ⟨nm, g, wh, f, l, ts⟩ := m
  simp only at *
  generalize ts.length = tl at *
  go_enter Tryd.func43, Tryd.ntmps43
  go_wp2_with fail
  refine (H.out).mono ?_
  rintro e w1 ⟨hm, hb1⟩
  have HB := hid_intro hb1
  clear hb1
  rcases hm with rfl | ⟨⟨t, x, rfl⟩, hov⟩
  · go_wp2_with fail
    go_ret
    exact ⟨.inl rfl, HB.out⟩
  · try go_wp2_with fail
    exact ⟨rfl, .inr ⟨⟨t, x, rfl⟩, hov⟩, HB.out⟩
set_option maxRecDepth 100000 in
set_option maxHeartbeats 4000000 in
theorem impl_rate (v : Value) (m : Me) (u : Int) (w : World) (hL : Laid w) (hR : MRight m) (hu : 0 ≤ u ∧ u ≤ 1000000000000) (hM : IsMe v m w) :
    Calls Tryd.prog 24 #[v, .int .i64 u] w fun e w' => e = .returned (out (rO m u).1 (rO m u).2) ∧ Below w.heap.size w w' := by
  have HRB := hid_intro (rt_bd hR hu)
  have HM0 := hid_intro hM
  obtain ⟨ta, tc, rfl, hT⟩ := hM
  have hmf : ∀ (fn : Fn) (first cap : Array Value) (w : World), (Instr.makeFunc fn first cap).run Tryd.prog w = .ok (.func fn first cap) w := fun _ _ _ _ => rfl
  obtain ⟨W, hW⟩ : ∃ W, W = ((w.alloc (Obj.cells #[.string m.n, .int .i64 m.g, .bool m.wh, .int .i64 m.f, .int .i64 m.l, .slice ta m.ts.length tc] 49)).alloc (Obj.cells #[.int .i64 u] 2)).alloc (Obj.cells #[.int .i64 0, .int .i64 0, .int .i64 0] 27) := ⟨_, rfl⟩
  have hsz : W.heap.size = w.heap.size + 3 := by rw [hW]; simp
  have hb1 : Below w.heap.size w W := by rw [hW]; exact (((Below.refl _ _).alloc (by simp; try omega) _).alloc (by simp; try omega) _).alloc (by simp; try omega) _
  have hB : Blk w.heap.size [.string m.n, .int .i64 m.g, .bool m.wh, .int .i64 m.f, .int .i64 m.l, .slice ta m.ts.length tc] W := by rw [hW]; exact ((Blk.new w _ _).alloc _).alloc _
  have p1 : W.cell? ⟨w.heap.size + 1, 0, none⟩ = some (.int .i64 u) := by rw [hW]; simp [go_sem]
  have c0 : W.cell? ⟨w.heap.size + 1 + 1, 0, none⟩ = some (.int .i64 0) := by rw [hW]; simp [go_sem]
  have z0 : W.frozen? ⟨w.heap.size + 1 + 1, 0, none⟩ = false := by rw [hW]; simp [go_sem]
  have c1 : W.cell? ⟨w.heap.size + 1 + 1, 1, none⟩ = some (.int .i64 0) := by rw [hW]; simp [go_sem]
  have z1 : W.frozen? ⟨w.heap.size + 1 + 1, 1, none⟩ = false := by rw [hW]; simp [go_sem]
  have c2 : W.cell? ⟨w.heap.size + 1 + 1, 2, none⟩ = some (.int .i64 0) := by rw [hW]; simp [go_sem]
  have z2 : W.frozen? ⟨w.heap.size + 1 + 1, 2, none⟩ = false := by rw [hW]; simp [go_sem]
  have hf : ∀ w1, Below W.heap.size W w1 → Calls Tryd.prog 43 #[.pointer (some ⟨w.heap.size, 0, none⟩), .pointer (some ⟨w.heap.size + 1, 0, none⟩)] w1 fun e w2 => May (rt m u) e ∧ Below w1.heap.size w1 w2 := by
    intro w1 hb
    have q1 := hb.cell (p := ⟨w.heap.size + 1, 0, none⟩) (by simp only; omega)
    rw [p1] at q1
    exact one_call _ m u _ _ w1 ((hL.below hb1).below hb) hR hu (HM0.out.below (hb1.trans (hb.mono (by omega)))) ⟨_, rfl, rfl, hB.below hb⟩ q1 (by have := hb.size; omega)
  have he : ∀ args w, (callFunc 43 args).run Tryd.prog w = .ok (.enter 43 args) w := fun args w => by simp [go_sem]
  have hr : Calls Tryd.prog 42 #[.func (.func 43) #[] #[.pointer (some ⟨w.heap.size, 0, none⟩), .pointer (some ⟨w.heap.size + 1, 0, none⟩)]] W fun e w' => e = .returned (out (rO m u).1 (rO m u).2) ∧ Below W.heap.size W w' := by
    by_cases hin : rt m u ≤ 1000000000000000
    · rw [rO_in hin]
      refine reckoned_ok 43 _ _ (by unfold In; have := HRB.out; omega) W (fun w1 hb => (hf w1 hb).mono fun e w2 h => ⟨?_, h.2⟩) he
      rcases h.1 with h1 | ⟨_, h1⟩
      · exact h1
      · omega
    · rw [rO_over hin]
      refine reckoned_over 43 _ W (hL.below hb1) (fun w1 hb => (hf w1 hb).mono fun e w2 h => ⟨?_, h.2⟩) he
      rcases h.1 with h1 | ⟨h1, _⟩
      · exact .inl ⟨_, h1, by unfold In; omega⟩
      · exact .inr h1
  have HW := hid_intro hW
  have HB1 := hid_intro hb1
  clear hf he hW hb1 hL p1 hB HM0 hR hu HRB hT
  generalize (rO m u).1 = V at *
  generalize (rO m u).2 = C at *
  obtain ⟨nm, g, wh, f, l, ts⟩ := m
  simp only at *
  generalize ts.length = tl at *
  go_enter Tryd.func24, Tryd.ntmps24
  go_wp2_with fail
  rw [← HW.out]
  refine hr.mono ?_
  rintro e w2 ⟨rfl, hb⟩
  have d0 := hb.cell (p := ⟨w.heap.size + 1 + 1, 0, none⟩) (by simp only; omega)
  have y0 := hb.frozen (p := ⟨w.heap.size + 1 + 1, 0, none⟩) (by simp only; omega)
  rw [c0] at d0; rw [z0] at y0
  have d1 := hb.cell (p := ⟨w.heap.size + 1 + 1, 1, none⟩) (by simp only; omega)
  have y1 := hb.frozen (p := ⟨w.heap.size + 1 + 1, 1, none⟩) (by simp only; omega)
  rw [c1] at d1; rw [z1] at y1
  have d2 := hb.cell (p := ⟨w.heap.size + 1 + 1, 2, none⟩) (by simp only; omega)
  have y2 := hb.frozen (p := ⟨w.heap.size + 1 + 1, 2, none⟩) (by simp only; omega)
  rw [c2] at d2; rw [z2] at y2
  have HB := hid_intro (HB1.out.trans (hb.mono (by omega)))
  clear hb c0 c1 c2 z0 z1 z2 hr HW HB1 hmf
  unfold out
  go_wp2
  refine bodyPost_ret (v := out V C) (by simp [out, results, Tryd.results24, go_sem, d0, d1, d2]) rfl ⟨rfl, ?_⟩
  exact ((HB.out.setCell (by simp only; omega) _).setCell (by simp only; omega) _).setCell (by simp only; omega) _
end CatR
end Go.Proofs.YtnhjodlcdfkpnaaDoor
