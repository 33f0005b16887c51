/-
  An engine that came in. No condition.
  From the row's premise on the program's table to the walk's: its variable holds the months' days; and a world that meets the premise. No condition.
  From the row's premise on the program's own error to the walk's: its variable holds an error; and a world that meets the premise. No condition.
  From the row's premise on the program's table and its own error to the walk's; and a world that meets the premise. No condition.
-/
import Derived.Test.YtjfmdcdclifpkaaGreatDoorTie
import Derived.ChangeSame
import Derived.ChangeVars
import Derived.JoinedOf
import Derived.ProofKit
import Derived.LaidLaws
import Derived.LaidMore
import Derived.LaidHandle
import Derived.MakeChecks
import Derived.Lib.LaidTab
import Derived.Stop.Joined
import Derived.Stop.LaidErr
import Derived.LaidSub
import Derived.Test.YtjfmdcdclifpkaaGreatDoorE37
namespace Go.Proofs.YtjfmdcdclifpkaaGreatDoor
open Go.ChangeShapes Go.WideShapes Go.ChangeAt Go.RowKit Go.Deep
set_option linter.unusedVariables false
namespace EngR
open CatR
section
variable {J : Type} {enc : TypeId × Value → J} {w : World} {base : Nat} {spare : Nat → Bool} {held : Bool}
theorem lst7 {α : Type} {cs : List α} (h : cs.length = 7) : ∃ c0 c1 c2 c3 c4 c5 c6, cs = [c0, c1, c2, c3, c4, c5, c6] := by
  match cs, h with
  | [c0, c1, c2, c3, c4, c5, c6], _ => exact ⟨c0, c1, c2, c3, c4, c5, c6, rfl⟩
theorem eng_cells {P : Program} {t : TypeId} {f0 f1 f2 f3 f4 f5 : Field} {fuel : Nat} {cs : List Value} {x : DataW J × List MemPlace} (hs : P.underlying t = some (.struct #[f0, f1, f2, f3, f4, f5])) (hC : P.cellsOf t = 7)
    (o0 : f0.offset = 0) (o1 : f1.offset = 2) (o2 : f2.offset = 3) (o3 : f3.offset = 4) (o4 : f4.offset = 5) (o5 : f5.offset = 6)
    (k0 : P.cellsOf f0.type = 2) (k1 : P.cellsOf f1.type = 1) (k2 : P.cellsOf f2.type = 1) (k3 : P.cellsOf f3.type = 1) (k4 : P.cellsOf f4.type = 1) (k5 : P.cellsOf f5.type = 1)
    (h : DataW.trod enc P w base spare held fuel t cs = some x) :
    ∃ n c0 c1 c2 c3 c4 c5 c6, cs = [c0, c1, c2, c3, c4, c5, c6] ∧ (∃ y, DataW.trod enc P w base spare held n f0.type [c0, c1] = some y) ∧ (∃ y, DataW.trod enc P w base spare held n f1.type [c2] = some y) ∧ (∃ y, DataW.trod enc P w base spare held n f2.type [c3] = some y) ∧ (∃ y, DataW.trod enc P w base spare held n f3.type [c4] = some y) ∧ (∃ y, DataW.trod enc P w base spare held n f4.type [c5] = some y) ∧ ∃ y, DataW.trod enc P w base spare held n f5.type [c6] = some y := by
  obtain ⟨xs, n, _, _, hl, hlen, hf⟩ := DataW.trod_struct hs h
  obtain ⟨c0, c1, c2, c3, c4, c5, c6, rfl⟩ := lst7 (hl.trans hC)
  obtain ⟨y0, y1, y2, y3, y4, y5, rfl⟩ := lst6 (show xs.length = 6 from hlen)
  have h0 := hf 0 f0 rfl
  have h1 := hf 1 f1 rfl
  have h2 := hf 2 f2 rfl
  have h3 := hf 3 f3 rfl
  have h4 := hf 4 f4 rfl
  have h5 := hf 5 f5 rfl
  simp [o0, k0] at h0
  simp [o1, k1] at h1
  simp [o2, k2] at h2
  simp [o3, k3] at h3
  simp [o4, k4] at h4
  simp [o5, k5] at h5
  exact ⟨n, c0, c1, c2, c3, c4, c5, c6, rfl, ⟨_, h0⟩, ⟨_, h1⟩, ⟨_, h2⟩, ⟨_, h3⟩, ⟨_, h4⟩, ⟨_, h5⟩⟩
theorem eng_open {fuel : Nat} {cs : List Value} {y : DataW J × List MemPlace} (h : DataW.trod enc Tryz.prog w base spare held fuel 31 cs = some y) :
    ∃ (x : Eng) (ma : Option Addr) (mc : Nat) (ca : Option Addr) (cc : Nat) (sa : Option Addr) (sc : Nat) (ea : Option Addr) (ec : Nat) (ua : Option Addr) (uc : Nat) (da : Option Addr) (dc : Nat), cs = (ecells x ma mc ca cc sa sc ea ec ua uc da dc).toList ∧ x.In ∧ (∀ d ∈ x.ds, (Lit.int .i64 d.mo).wf = true) ∧ IsEng (.agg (ecells x ma mc ca cc sa sc ea ec ua uc da dc)) x w := by
  obtain ⟨n, c0, c1, c2, c3, c4, c5, c6, rfl, ⟨y0, h0⟩, ⟨y1, h1⟩, ⟨y2, h2⟩, ⟨y3, h3⟩, ⟨y4, h4⟩, ⟨y5, h5⟩⟩ := eng_cells Tryz.underlying31 (by kernel_rfl) rfl rfl rfl rfl rfl rfl (by kernel_rfl) (by kernel_rfl) (by kernel_rfl) (by kernel_rfl) (by kernel_rfl) (by kernel_rfl) h
  obtain ⟨ma, ml, mc, ca, cl, cc, e0, ⟨n1, z1, t1⟩, ⟨n2, z2, t2⟩⟩ := ca_cells Tryz.underlying25 (by kernel_rfl) (by kernel_rfl) Tryz.underlying22 Tryz.underlying23 h0
  simp only [List.cons.injEq, and_true] at e0
  obtain ⟨rfl, rfl⟩ := e0
  obtain ⟨wl, ms, hml, wi, hM⟩ := mes_open (tt := 0) Tryz.underlying22 Tryz.underlying162 (by kernel_rfl) (by kernel_rfl) Tryz.underlying9 Tryz.underlying2 Tryz.underlying4 Tryz.underlying2 Tryz.underlying2 Tryz.underlying160 Tryz.underlying266 (by kernel_rfl) (by kernel_rfl) Tryz.underlying2 Tryz.underlying2 t1
  obtain ⟨wl', rs, hcl, wi', hR⟩ := crs_open Tryz.underlying23 Tryz.underlying165 (by kernel_rfl) (by kernel_rfl) Tryz.underlying9 Tryz.underlying2 t2
  obtain ⟨sa, sl, sc, rfl⟩ := slice_of Tryz.underlying26 h1
  obtain ⟨sw, ss, hsl, si, hSs⟩ := crs_open Tryz.underlying26 Tryz.underlying96 (by kernel_rfl) (by kernel_rfl) Tryz.underlying9 Tryz.underlying2 h1
  obtain ⟨ea, el, ec, rfl⟩ := slice_of Tryz.underlying27 h2
  obtain ⟨es, hel, ew, hEs, ei⟩ := SeenR.ens_open Tryz.underlying27 Tryz.underlying99 (by kernel_rfl) (by kernel_rfl) Tryz.underlying9 Tryz.underlying2 Tryz.underlying2 h2
  obtain ⟨ua, ul, uc, rfl⟩ := slice_of Tryz.underlying28 h3
  obtain ⟨ws, hul, uw, hWs, ui⟩ := WinR.wns_open Tryz.underlying28 Tryz.underlying104 (by kernel_rfl) (by kernel_rfl) Tryz.underlying9 Tryz.underlying9 Tryz.underlying2 Tryz.underlying2 Tryz.underlying2 Tryz.underlying2 Tryz.underlying101 Tryz.underlying102 Tryz.underlying9 (by kernel_rfl) Tryz.underlying240 (by kernel_rfl) (by kernel_rfl) Tryz.underlying2 Tryz.underlying2 h3
  obtain ⟨da, dl, dc, rfl⟩ := slice_of Tryz.underlying29 h4
  obtain ⟨ds, hdl, dw, hDs, di⟩ := LedR.docs_open Tryz.underlying29 Tryz.underlying108 (by kernel_rfl) (by kernel_rfl) Tryz.underlying9 Tryz.underlying2 Tryz.underlying2 Tryz.underlying106 Tryz.underlying232 (by kernel_rfl) (by kernel_rfl) Tryz.underlying9 Tryz.underlying2 h4
  obtain ⟨fr, ef, rfl, wf⟩ := DataW.trod_int Tryz.underlying2 h5
  simp only [List.cons.injEq, and_true] at ef
  subst ef hml hcl hsl hel hul hdl
  exact ⟨⟨⟨ms, rs⟩, ss, es, ws, ds, fr⟩, ma, mc, ca, cc, sa, sc, ea, ec, ua, uc, da, dc, rfl, ⟨⟨wl, wi, wl', wi'⟩, sw, si, ew, ei, uw, ui, dw, di, wf⟩, fun d hd => (di d hd).2, ⟨ma, mc, ca, cc, sa, sc, ea, ec, ua, uc, da, dc, rfl, hM, hR, hSs, hEs, hWs, hDs⟩⟩
end
end EngR
end Go.Proofs.YtjfmdcdclifpkaaGreatDoor
namespace Go.Proofs.YtjfmdcdclifpkaaGreatDoor
open Go.ChangeShapes Go.WideShapes Go.RowKit
namespace Lay
theorem own : ownKnob Tryz.prog.godebug = none := by kernel_rfl
theorem laidOut : laidOutB Tryz.prog = true := by kernel_rfl
theorem gv : Tryz.prog.globalNamed "loop.example/g00562/impl.monthLengths" = some 1 := by kernel_rfl
theorem gt : (Tryz.prog.globals[1]?).map (·.type) = some 290 := by kernel_rfl
theorem cellsE : Tryz.prog.cellsOf 2 = 1 := by kernel_rfl
theorem cellsT : Tryz.prog.cellsOf 290 = 12 := by kernel_rfl
def laid {H : Type} : List (String × DataW H) := [("loop.example/g00562/impl.monthLengths", Rows.laid_loop_example_g00562_impl_monthLengths)]
theorem of_tab {W : World} (hT : Lib.TabIs Tryz.prog W "loop.example/g00562/impl.monthLengths" .i64 DateR.tab) : DateR.Laid W := by
  have hc : ∀ k : Nat, k < 12 → W.cell? ⟨1, k, none⟩ = some (.int .i64 (DateR.tab.getD k 0)) := fun k hk => hT.cell gv k hk
  refine ⟨?_, hc⟩
  rcases Nat.lt_or_ge 1 W.heap.size with h | h
  · exact h
  · have h0 : W.heap[1]? = none := Array.getElem?_eq_none h
    have := hc 0 (by omega)
    simp [World.cell?, h0] at this
theorem of_laid {W : World} (h : laidMetH Tryz.prog laid W) : DateR.Laid W := by
  rw [MakeChecks.laidMetH_plain _ _ _ (by kernel_rfl)] at h
  exact of_tab (Lib.tabIs_of_head gv gt Tryz.underlying290 Tryz.underlying2 cellsE cellsT (zs := DateR.tab) (k := .i64) h)
theorem door_met (os : Os) (args : Array Value) : laidMetH Tryz.prog laid ((World.doorLaid Tryz.prog 400 os).forCall (fun _ _ => 0) ⟨#[], args, []⟩).memory :=
  laidMetH_of_parts3 (fuel := 8) (laidMet_of_run' 8 (by kernel_rfl) (by kernel_rfl)) (by kernel_rfl) (by kernel_rfl)
end Lay
end Go.Proofs.YtjfmdcdclifpkaaGreatDoor
namespace Go.Proofs.YtjfmdcdclifpkaaGreatDoor
open Go.ChangeShapes Go.WideShapes Go.RowKit
namespace Snm
theorem laidOut : laidOutB Tryz.prog = true := by kernel_rfl
theorem own : ownKnob Tryz.prog.godebug = none := by kernel_rfl
theorem gv : Tryz.prog.globalNamed "loop.example/g00562/impl.errNoMeter" = some 0 := by kernel_rfl
theorem gt : (Tryz.prog.globals[0]?).map (·.type) = some 133 := by kernel_rfl
theorem star : "*" ++ "errors.errorString" = "*errors.errorString" := by decide
theorem row (u : TypeId) (h : Tryz.prog.typeName? 3 u = some "*errors.errorString") : u = 316 :=
  typeName_ptr_named (nm := "errors.errorString") (by rw [star]; kernel_rfl) (by kernel_rfl) (by decide) u (by rw [star]; exact h)
theorem cellsE : Tryz.prog.cellsOf 340 = 1 := by kernel_rfl
theorem cellsS : Tryz.prog.cellsOf 9 = 1 := by kernel_rfl
def laid {H : Type} : List (String × DataW H) := [("loop.example/g00562/impl.errNoMeter", Rows.laid_loop_example_g00562_impl_errNoMeter)]
theorem of_laid {W : World} (h : laidMetH Tryz.prog laid W) : ∃ a : Addr, W.var? Tryz.prog "loop.example/g00562/impl.errNoMeter" = some #[.iface 316 (.pointer (some a))] := by
  rw [MakeChecks.laidMetH_plain _ _ _ (by kernel_rfl)] at h
  obtain ⟨a, s, hv, _⟩ := laid_sentinel h gv gt Tryz.underlying133 row Tryz.underlying316 Tryz.underlying340 rfl rfl Tryz.underlying9 cellsE cellsS
  exact ⟨a, hv⟩
theorem laid_of {W : World} {a : Addr} (h : W.var? Tryz.prog "loop.example/g00562/impl.errNoMeter" = some #[.iface 316 (.pointer (some a))]) : CatR.Laid W := by
  have hg : W.cell? ⟨0, 0, none⟩ = some (.iface 316 (.pointer (some a))) := by simpa using World.var?_cell gv h 0
  refine ⟨?_, a, hg⟩
  rcases Nat.lt_or_ge 0 W.heap.size with h | h
  · exact h
  · have h0 : W.heap[0]? = none := Array.getElem?_eq_none h
    simp [World.cell?, h0] at hg
theorem var_below {W W' : World} {cs : Array Value} (hL : CatR.Laid W) (h : W.var? Tryz.prog "loop.example/g00562/impl.errNoMeter" = some cs) (hb : Below W.heap.size W W') : W'.var? Tryz.prog "loop.example/g00562/impl.errNoMeter" = some cs := by
  unfold World.var? at h ⊢
  rw [gv] at h ⊢
  simp only [Option.bind_some] at h ⊢
  rw [hb.block 0 hL.1]
  exact h
theorem door_met (os : Os) (args : Array Value) : laidMetH Tryz.prog laid ((World.doorLaid Tryz.prog 400 os).forCall (fun _ _ => 0) ⟨#[], args, []⟩).memory :=
  laidMetH_of_parts3 (fuel := 8) (laidMet_of_run' 8 (by kernel_rfl) (by kernel_rfl)) (by kernel_rfl) (by kernel_rfl)
end Snm
end Go.Proofs.YtjfmdcdclifpkaaGreatDoor
namespace Go.Proofs.YtjfmdcdclifpkaaGreatDoor
open Go.ChangeShapes Go.WideShapes Go.RowKit
namespace LayE
theorem own : ownKnob Tryz.prog.godebug = none := by kernel_rfl
theorem laidOut : laidOutB Tryz.prog = true := by kernel_rfl
def Ok (w : World) : Prop := CatR.Laid w ∧ DateR.Laid w
theorem Ok.below {w w' : World} (h : Ok w) (hb : Below w.heap.size w w') : Ok w' := ⟨h.1.below hb, h.2.below hb⟩
def laid {H : Type} : List (String × DataW H) := [("loop.example/g00562/impl.monthLengths", Rows.laid_loop_example_g00562_impl_monthLengths), ("loop.example/g00562/impl.errNoMeter", Rows.laid_loop_example_g00562_impl_errNoMeter)]
theorem part1 : (laid (H := Unit)).filter (fun x => x.1 != "loop.example/g00562/impl.errNoMeter") = Lay.laid := by rfl
theorem part2 : (laid (H := Unit)).filter (fun x => x.1 == "loop.example/g00562/impl.errNoMeter") = Snm.laid := by rfl
theorem of_laid {W : World} (h : laidMetH Tryz.prog laid W) : Ok W := by
  have h1 := h.filter (fun x => x.1 != "loop.example/g00562/impl.errNoMeter")
  have h2 := h.filter (fun x => x.1 == "loop.example/g00562/impl.errNoMeter")
  rw [part1] at h1
  rw [part2] at h2
  obtain ⟨a, hv⟩ := Snm.of_laid h2
  exact ⟨Snm.laid_of hv, Lay.of_laid h1⟩
theorem door_met (os : Os) (args : Array Value) : laidMetH Tryz.prog laid ((World.doorLaid Tryz.prog 400 os).forCall (fun _ _ => 0) ⟨#[], args, []⟩).memory :=
  laidMetH_of_parts3 (fuel := 8) (laidMet_of_run' 8 (by kernel_rfl) (by kernel_rfl)) (by kernel_rfl) (by kernel_rfl)
end LayE
end Go.Proofs.YtjfmdcdclifpkaaGreatDoor
