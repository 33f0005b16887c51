/-
  errors.As at the program's own fault type: of nil it tells false; of a fault it tells true and lays it into the target; nothing else that was there is written. The condition: errors' own variable holds the handle of the type error, and the target is a variable that may be written.
  errors.As of a fault at the program's own fault type: it tells true, lays it into the target, and writes nothing else that was there. The condition: errors' own variable holds the handle of the type error, and the target is a variable that may be written.
  impl.Issue. The conditions: sizes of at most 1048576, months that are numbers of 64 bits; errors' own variable holds the handle of the type error.
  An answer with documents marked as a whole, and its marks read later on. The conditions: at most 1048576 documents, small ones; the marks below 5300001.
  What the law of Issue leans on: its answers are small, and they stay where nothing of their own is written. The conditions: sizes of at most 1048576.
  From the row's premise on errors' own variable to the walk's: its one cell holds the handle of the type error; and a world that meets the premise. No condition.
-/
import Derived.LaidEql
import Derived.Stop.Asserts
import Derived.RowKitTokens
import Derived.Deep.RegionHeld
import Derived.ChangeSame
import Derived.ChangeVars
import Derived.JoinedOf
import Derived.LaidLaws
import Derived.LaidHandle
import Derived.Stop.Joined
import Derived.Test.YtakeiankhfdjdaaGreatDoorI3
namespace Go.Proofs.YtakeiankhfdjdaaGreatDoor
open Go.RowKit Go.Extern.Stop Go.Stop Go.Extern
set_option linter.unusedVariables false
namespace AsD
theorem as_nil (t : Value) (w : World) :
    Calls Tryz.prog 57 #[.nilIface, t] w fun e w' => e = .returned (.bool false) ∧ w' = w := by
  go_enter Tryz.func57, Tryz.ntmps57
  go_wp2
  go_ret
  exact ⟨rfl, rfl⟩
theorem valueOfP (t : Addr) (w : World) : (ReflectliteValue.unpack (.iface 92 (.pointer (some t)))).run Tryz.prog w
    = .ok (.agg #[.pointer (some ⟨1, 92, none⟩), .pointer (some ⟨w.heap.size, 0, none⟩), .int .u64 150]) (w.alloc (.cells #[.pointer (some t)] 92)) := by kernel_rfl
theorem typeP (a : Addr) (w : World) : (ReflectliteValue.methodAny (ReflectliteValue.valueError "reflectlite.Value.Type" 0) (fun t _ _ _ => ReflectliteType.toType t) #[.agg #[.pointer (some ⟨1, 92, none⟩), .pointer (some a), .int .u64 150]]).run Tryz.prog w
    = .ok (.iface 117 (.agg #[.pointer (some ⟨1, 92, none⟩)])) w := by kernel_rfl
theorem methodKind (h : Value) (w : World) : (Go.method 284 117 (.agg #[h]) "Kind").run Tryz.prog w = .ok (110, h) w := by kernel_rfl
theorem kindP (w : World) : ((ReflectliteType.abiMethod fun t => (fun a : Nat => Value.int IntKind.u8 (a : Int)) <$> Rtype.kind t) #[.pointer (some ⟨1, 92, none⟩)]).run Tryz.prog w = .ok (.int .u8 22) w := by kernel_rfl
theorem kindE (w : World) : ((ReflectliteType.abiMethod fun t => (fun a : Nat => Value.int IntKind.u8 (a : Int)) <$> Rtype.kind t) #[.pointer (some ⟨1, 84, none⟩)]).run Tryz.prog w = .ok (.int .u8 25) w := by kernel_rfl
theorem method1 (z : Sem Value) (f : TypeId → Addr → Nat → Nat → Sem Value) (v : Value) :
    ReflectliteValue.method z f #[v] = (do match ← ReflectliteValue.parts v with | none => z | some (t, a, fl) => f t a fl (fl % 32)) := rfl
theorem partsP (a : Addr) (w : World) : (ReflectliteValue.parts (.agg #[.pointer (some ⟨1, 92, none⟩), .pointer (some a), .int .u64 150])).run Tryz.prog w = .ok (some (92, a, 150)) w := by kernel_rfl
theorem isNilP (a p : Addr) (W : World) (ha : W.cell? a = some (.pointer (some p))) :
    (ReflectliteValue.method (ReflectliteValue.valueError "reflectlite.Value.IsNil" 0) ReflectliteValue.isNil #[.agg #[.pointer (some ⟨1, 92, none⟩), .pointer (some a), .int .u64 150]]).run Tryz.prog W = .ok (.bool false) W := by
  rw [method1]
  simp only [Sem.run_bind, partsP, Result.andThen]
  simp [ReflectliteValue.isNil, loadVar, isAgg, underlying, Tryz.underlying92, ha, Result.andThen]
theorem methodElem (h : Value) (w : World) : (Go.method 284 117 (.agg #[h]) "Elem").run Tryz.prog w = .ok (120, .agg #[h]) w := by kernel_rfl
theorem methodImplements (h : Value) (w : World) : (Go.method 284 117 (.agg #[h]) "Implements").run Tryz.prog w = .ok (121, .agg #[h]) w := by kernel_rfl
theorem methodAssignableTo (h : Value) (w : World) : (Go.method 284 117 (.agg #[h]) "AssignableTo").run Tryz.prog w = .ok (118, .agg #[h]) w := by kernel_rfl
theorem elemP (w : World) : (ReflectliteType.method ReflectliteType.elem #[.agg #[.pointer (some ⟨1, 92, none⟩)]]).run Tryz.prog w = .ok (.iface 117 (.agg #[.pointer (some ⟨1, 84, none⟩)])) w := by kernel_rfl
theorem implementsE (w : World) : (ReflectliteType.relation "Implements" ReflectliteType.implements_ #[.agg #[.pointer (some ⟨1, 84, none⟩)], .iface 117 (.agg #[.pointer (some ⟨1, 57, none⟩)])]).run Tryz.prog w = .ok (.bool true) w := by kernel_rfl
theorem typeOfE (v : Value) (w : World) : (ReflectliteType.typeOf #[.iface 84 v]).run Tryz.prog w = .ok (.iface 117 (.agg #[.pointer (some ⟨1, 84, none⟩)])) w := by kernel_rfl
theorem assignableE (w : World) : (ReflectliteType.relation "AssignableTo" ReflectliteType.assignableTo #[.agg #[.pointer (some ⟨1, 84, none⟩)], .iface 117 (.agg #[.pointer (some ⟨1, 84, none⟩)])]).run Tryz.prog w = .ok (.bool true) w := by kernel_rfl
theorem valueOfE (c : Int) (w : World) : (ReflectliteValue.unpack (.iface 84 (.agg #[.int .i64 c]))).run Tryz.prog w
    = .ok (.agg #[.pointer (some ⟨1, 84, none⟩), .pointer (some ⟨w.heap.size, 0, none⟩), .int .u64 153]) (w.alloc (.cells #[.int .i64 c] 84)) := by kernel_rfl
theorem elemOfP (w : World) : (Rtype.elem? 92).run Tryz.prog w = .ok (some 84) w := by kernel_rfl
theorem mkE (p : Addr) (w : World) : (ReflectliteValue.mk 84 p ReflectliteValue.flagAddr).run Tryz.prog w = .ok (.agg #[.pointer (some ⟨1, 84, none⟩), .pointer (some p), .int .u64 409]) w := by kernel_rfl
theorem elemVP (a p : Addr) (W : World) (ha : W.cell? a = some (.pointer (some p))) :
    (ReflectliteValue.method (ReflectliteValue.valueError "reflectlite.Value.Elem" 0) ReflectliteValue.elem #[.agg #[.pointer (some ⟨1, 92, none⟩), .pointer (some a), .int .u64 150]]).run Tryz.prog W
      = .ok (.agg #[.pointer (some ⟨1, 84, none⟩), .pointer (some p), .int .u64 409]) W := by
  rw [method1]
  simp only [Sem.run_bind, partsP, Result.andThen]
  simp [ReflectliteValue.elem, loadVar, isAgg, underlying, Tryz.underlying92, ha, Result.andThen, elemOfP, mkE]
theorem partsEa (a : Addr) (w : World) : (ReflectliteValue.parts (.agg #[.pointer (some ⟨1, 84, none⟩), .pointer (some a), .int .u64 409])).run Tryz.prog w = .ok (some (84, a, 409)) w := by kernel_rfl
theorem partsE (a : Addr) (w : World) : (ReflectliteValue.parts (.agg #[.pointer (some ⟨1, 84, none⟩), .pointer (some a), .int .u64 153])).run Tryz.prog w = .ok (some (84, a, 153)) w := by kernel_rfl
theorem directE (w : World) : (Rtype.directlyAssignable 84 84).run Tryz.prog w = .ok true w := by kernel_rfl
theorem sizeE (w : World) : (sizeOf 84).run Tryz.prog w = .ok 1 w := by kernel_rfl
end AsD
end Go.Proofs.YtakeiankhfdjdaaGreatDoor
namespace Go.Proofs.YtakeiankhfdjdaaGreatDoor
open Go.RowKit Go.Extern.Stop Go.Stop Go.Extern
set_option linter.unusedVariables false
namespace AsD
theorem hid_intro {p : Prop} (h : p) : Hid p := h
set_option maxRecDepth 100000 in
theorem setE (ta b : Addr) (c : Int) (old : Value) (W : World) (hb : W.cell? b = some (.int .i64 c)) (ht : W.cell? ta = some old) (hf : W.frozen? ta = false) (hb0 : b.add 0 = b) (ht0 : ta.add 0 = ta) :
    (ReflectliteValue.set #[.agg #[.pointer (some ⟨1, 84, none⟩), .pointer (some ta), .int .u64 409], .agg #[.pointer (some ⟨1, 84, none⟩), .pointer (some b), .int .u64 153]]).run Tryz.prog W
      = .ok (.tuple #[]) (W.setCell ta (.int .i64 c)) := by
  have hl : (loadCells b 1).run Tryz.prog W = .ok #[.int .i64 c] W := by
    have := run_loadCells_list (P := Tryz.prog) W b [.int .i64 c] (fun j v hj => by
      match j, hj with
      | 0, hj => simp at hj; subst hj; rw [hb0]; exact hb)
    simpa using this
  show Sem.run Tryz.prog (bind (ReflectliteValue.parts (.agg #[.pointer (some ⟨1, 84, none⟩), .pointer (some ta), .int .u64 409])) _) W = _
  rw [Sem.run_bind, partsEa]
  show Sem.run Tryz.prog (bind (ReflectliteValue.parts (.agg #[.pointer (some ⟨1, 84, none⟩), .pointer (some b), .int .u64 153])) _) W = _
  rw [Sem.run_bind, partsE]
  simp only [Result.andThen]
  simp [ReflectliteValue.flagAddr, loadVar, isAgg, underlying, Tryz.underlying84, Result.andThen, directE, storeVar, Value.cells, storeCells, hl, ht0]
  rw [run_store Tryz.prog W ta _ _ (by rfl)]
  simp [ht, hf]

set_option maxHeartbeats 4000000 in
theorem as_hit (c : Int) (w : World) (hlt : 0 < w.heap.size) (hg : w.cell? ⟨0, 0, none⟩ = some (.iface 117 (.agg #[.pointer (some ⟨1, 57, none⟩)]))) (tb : Nat) (htl : tb < w.heap.size) (old : Value) (ht0 : w.cell? ⟨tb, 0, none⟩ = some old) (hf0 : w.frozen? ⟨tb, 0, none⟩ = false) :
    Calls Tryz.prog 57 #[.iface 84 (.agg #[.int .i64 c]), .iface 92 (.pointer (some ⟨tb, 0, none⟩))] w fun ev w' => ev = .returned (.bool true) ∧ w'.cell? ⟨tb, 0, none⟩ = some (.int .i64 c) ∧ Below tb w w' ∧ w.heap.size ≤ w'.heap.size := by
  have h17 := @run_callFunc_extern Tryz.prog 64 _ (fun args => ReflectliteValue.unpack (args.getD 0 (.tuple #[]))) Tryz.func64 (by kernel_rfl) (by kernel_rfl) (by kernel_rfl) (by kernel_rfl)
  have h18 := @run_callFunc_extern Tryz.prog 65 _ (ReflectliteValue.methodAny (ReflectliteValue.valueError "reflectlite.Value.Type" 0) (fun t _ _ _ => ReflectliteType.toType t)) Tryz.func65 (by kernel_rfl) (by kernel_rfl) (by kernel_rfl) (by kernel_rfl)
  have h19 := @run_callFunc_extern Tryz.prog 66 _ (ReflectliteValue.method (ReflectliteValue.valueError "reflectlite.Value.IsNil" 0) ReflectliteValue.isNil) Tryz.func66 (by kernel_rfl) (by kernel_rfl) (by kernel_rfl) (by kernel_rfl)
  have hK := @run_callFunc_extern Tryz.prog 110 _ (ReflectliteType.abiMethod fun t => do pure (.int .u8 (← Rtype.kind t))) Tryz.func110 (by kernel_rfl) (by kernel_rfl) (by kernel_rfl) (by kernel_rfl)
  have hE := @run_callFunc_extern Tryz.prog 120 _ (ReflectliteType.method ReflectliteType.elem) Tryz.func120 (by kernel_rfl) (by kernel_rfl) (by kernel_rfl) (by kernel_rfl)
  have hI := @run_callFunc_extern Tryz.prog 121 _ (ReflectliteType.relation "Implements" ReflectliteType.implements_) Tryz.func121 (by kernel_rfl) (by kernel_rfl) (by kernel_rfl) (by kernel_rfl)
  have hT := @run_callFunc_extern Tryz.prog 72 _ ReflectliteType.typeOf Tryz.func72 (by kernel_rfl) (by kernel_rfl) (by kernel_rfl) (by kernel_rfl)
  have hA := @run_callFunc_extern Tryz.prog 118 _ (ReflectliteType.relation "AssignableTo" ReflectliteType.assignableTo) Tryz.func118 (by kernel_rfl) (by kernel_rfl) (by kernel_rfl) (by kernel_rfl)
  have hL := @run_callFunc_extern Tryz.prog 73 _ (ReflectliteValue.method (ReflectliteValue.valueError "reflectlite.Value.Elem" 0) ReflectliteValue.elem) Tryz.func73 (by kernel_rfl) (by kernel_rfl) (by kernel_rfl) (by kernel_rfl)
  have hS := @run_callFunc_extern Tryz.prog 74 _ ReflectliteValue.set Tryz.func74 (by kernel_rfl) (by kernel_rfl) (by kernel_rfl) (by kernel_rfl)
  have f1 := typeOfE
  have f2 := methodAssignableTo
  have f3 := assignableE
  have f4 := valueOfE c
  have f5 := valueOfP ⟨tb, 0, none⟩
  have f6 := typeP
  have f7 := methodKind
  have f8 := methodElem
  have f9 := methodImplements
  have f10 := kindP
  have f11 := kindE
  have f12 := elemP
  have f13 := implementsE
  have n8 := isNilP ⟨w.heap.size, 0, none⟩ ⟨tb, 0, none⟩ ((w.alloc (.cells #[.pointer (some ⟨tb, 0, none⟩)] 92)).alloc (.cells #[.pointer (some ⟨1, 92, none⟩), .pointer (some ⟨w.heap.size, 0, none⟩), .int .u64 150] 105)) (by simp)
  have hg2 : ((w.alloc (.cells #[.pointer (some ⟨tb, 0, none⟩)] 92)).alloc (.cells #[.pointer (some ⟨1, 92, none⟩), .pointer (some ⟨w.heap.size, 0, none⟩), .int .u64 150] 105)).cell? ⟨0, 0, none⟩ = some (.iface 117 (.agg #[.pointer (some ⟨1, 57, none⟩)])) := by
    rw [World.cell?_alloc_lt _ _ ⟨0, 0, none⟩ (by simp), World.cell?_alloc_lt _ _ ⟨0, 0, none⟩ hlt]; exact hg
  have el := elemVP ⟨w.heap.size, 0, none⟩ ⟨tb, 0, none⟩ (((w.alloc (.cells #[.pointer (some ⟨tb, 0, none⟩)] 92)).alloc (.cells #[.pointer (some ⟨1, 92, none⟩), .pointer (some ⟨w.heap.size, 0, none⟩), .int .u64 150] 105)).alloc (.cells #[.pointer (some ⟨1, 92, none⟩), .pointer (some ⟨w.heap.size, 0, none⟩), .int .u64 150] 105)) (by rw [World.cell?_alloc_lt _ _ ⟨w.heap.size, 0, none⟩ (by simp; omega)]; simp)
  have hcW : ((((w.alloc (.cells #[.pointer (some ⟨tb, 0, none⟩)] 92)).alloc (.cells #[.pointer (some ⟨1, 92, none⟩), .pointer (some ⟨w.heap.size, 0, none⟩), .int .u64 150] 105)).alloc (.cells #[.pointer (some ⟨1, 92, none⟩), .pointer (some ⟨w.heap.size, 0, none⟩), .int .u64 150] 105)).alloc (.cells #[.int .i64 c] 84)).cell? ⟨tb, 0, none⟩ = some old := by
    rw [World.cell?_alloc_lt _ _ ⟨tb, 0, none⟩ (by simp; omega), World.cell?_alloc_lt _ _ ⟨tb, 0, none⟩ (by simp; omega), World.cell?_alloc_lt _ _ ⟨tb, 0, none⟩ (by simp; omega), World.cell?_alloc_lt _ _ ⟨tb, 0, none⟩ htl]; exact ht0
  have HW := hid_intro hcW
  have st := setE ⟨tb, 0, none⟩ ⟨w.heap.size + 1 + 1 + 1, 0, none⟩ c old ((((w.alloc (.cells #[.pointer (some ⟨tb, 0, none⟩)] 92)).alloc (.cells #[.pointer (some ⟨1, 92, none⟩), .pointer (some ⟨w.heap.size, 0, none⟩), .int .u64 150] 105)).alloc (.cells #[.pointer (some ⟨1, 92, none⟩), .pointer (some ⟨w.heap.size, 0, none⟩), .int .u64 150] 105)).alloc (.cells #[.int .i64 c] 84))
    (by rw [World.cell?_alloc_at _ _ _ _ (by simp)]; rfl)
    hcW
    (by rw [World.frozen?_alloc_old _ _ ⟨tb, 0, none⟩ (by simp; omega), World.frozen?_alloc_old _ _ ⟨tb, 0, none⟩ (by simp; omega), World.frozen?_alloc_old _ _ ⟨tb, 0, none⟩ (by simp; omega), World.frozen?_alloc_old _ _ ⟨tb, 0, none⟩ (Nat.ne_of_lt htl)]; exact hf0)
    rfl rfl
  clear hcW
  go_enter Tryz.func57, Tryz.ntmps57
  go_wp2
  refine wp_loop_rounds 1 ?_
  rw [rounds_succ]
  go_wp2
  go_ret
  refine ⟨rfl, ?_, ?_, ?_⟩
  · exact World.cell?_setCell_same _ _ _ HW.out
  · exact (((((Below.refl tb w).alloc (by omega) _).alloc (by simp; omega) _).alloc (by simp; omega) _).alloc (by simp; omega) _).setCell (Nat.le_refl _) _
  · simp; omega
/-- What the walks are told of errors' own variable. -/
def Laid (w : World) : Prop := 0 < w.heap.size ∧ w.cell? ⟨0, 0, none⟩ = some (.iface 117 (.agg #[.pointer (some ⟨1, 57, none⟩)]))
theorem Laid.below {w w' : World} (h : Laid w) (hb : Below w.heap.size w w') : Laid w' :=
  ⟨Nat.lt_of_lt_of_le h.1 hb.size, (hb.cell (p := ⟨0, 0, none⟩) h.1).trans h.2⟩
theorem Laid.alloc {w : World} (h : Laid w) (o : Obj) : Laid (w.alloc o) := h.below ((Below.refl _ _).alloc (Nat.le_refl _) _)
theorem code_nil (w : World) :
    Calls Tryz.prog 31 #[.nilIface] w fun e w' => e = .returned (.int .i64 0) ∧ Below w.heap.size w w' := by
  go_enter Tryz.func31, Tryz.ntmps31
  go_wp2_with (go_at_call 57; refine (as_nil _ _).mono ?_; rintro e w' ⟨rfl, rfl⟩)
  go_ret
  exact ⟨rfl, (Below.refl _ _).alloc (Nat.le_refl _) _⟩
theorem code_hit (c : Int) (w : World) (h : Laid w) :
    Calls Tryz.prog 31 #[.iface 84 (.agg #[.int .i64 c])] w fun e w' => e = .returned (.int .i64 c) ∧ Below w.heap.size w w' := by
  have hl := h.alloc (.cells #[.int .i64 0] 84)
  have h1 := as_hit c (w.alloc (.cells #[.int .i64 0] 84)) hl.1 hl.2 w.heap.size (by simp) (.int .i64 0) (by simp) (by simp)
  clear hl
  go_enter Tryz.func31, Tryz.ntmps31
  go_wp2_with (go_at_call 57; refine h1.mono ?_; rintro e w1 ⟨rfl, hcell, hbel, hsz⟩)
  go_ret
  exact ⟨rfl, ((Below.refl _ _).alloc (Nat.le_refl _) _).trans hbel⟩
end AsD
end Go.Proofs.YtakeiankhfdjdaaGreatDoor
namespace Go.Proofs.YtakeiankhfdjdaaGreatDoor
open Go.ChangeShapes Go.WideShapes Go.ChangeAt Go.RowKit
set_option linter.unusedVariables false
namespace LedR
open LinR RowG LtR NetR DocR
set_option maxRecDepth 100000 in
set_option maxHeartbeats 8000000 in
theorem iissue (ao bo : Option Addr) (cap capb : Nat) (ds : List D) (a : ByteArray) (m : Int) (bl : List N) (w : World) (hlay : AsD.Laid w) (hlen : ds.length ≤ 1048576) (hcap : ds.length ≤ cap) (hao : (ao = none ∧ ds.length = 0) ∨ ∃ b off, ao = some ⟨b, off, none⟩) (hSm : ∀ d ∈ ds, d.Sm) (hwf : ∀ d ∈ ds, (Lit.int .i64 d.mo).wf = true) (hg : Good a m) (hlb : bl.length ≤ 1048576) (hsb : ∀ e ∈ bl, e.i.size ≤ 1048576) (hI : Dcs ao ds w) (hL : Lis bo bl w) :
    Calls Tryz.prog 9 #[.slice ao ds.length cap, .string a, .int .i64 m, .slice bo bl.length capb] w fun e w' => ∃ v, e = .returned v ∧ LoO w.heap.size v (isD ds a m bl) (isX ds a m bl) (isC ds a m bl) w' ∧ Below w.heap.size w w' := by
  have HWI := hid_intro (fun (d : D) la lc W (hb : Below w.heap.size w W) (hS : d.Sm) (hN : ∀ x ∈ ds ++ [d], x.ls.filter nz = x.ls) (hl : Lis la d.ls W) (h30 : ds.length ≤ 1048575) => iwith ao cap ds d la lc W h30 hcap hao (fun x hx => by rcases List.mem_append.1 hx with h | h; exact hSm x h; rw [List.mem_singleton] at h; subst h; exact hS) hN (hI.below hb) hl)
  have HRO := hid_intro (fun W (hb : Below w.heap.size w W) => irows ao cap ds W (by omega) hSm hwf (hI.below hb))
  have HNR := hid_intro (fun W => NameR.impl_any a W hg.1)
  have HMO := hid_intro (fun W => iMon m W)
  have HLR := hid_intro (fun W (hb : Below w.heap.size w W) => impl_lines bo capb bl W hlb hsb (hL.below hb))
  have HKY := hid_intro (keyP hg)
  have HLay := hid_intro hlay
  have HG := hid_intro hg
  have HI := hid_intro hI
  have HL := hid_intro hL
  have HSB := hid_intro hsb
  have HSM := hid_intro hSm
  have HBg := hid_intro (isBig ds a m bl)
  have HFm := hid_intro (isForm ds a m bl)
  have HGo := hid_intro (isGo ds a m bl)
  have hga := hg.1
  obtain ⟨len, hl⟩ : ∃ len, len = ds.length := ⟨_, rfl⟩
  obtain ⟨lb, hl2⟩ : ∃ lb, lb = bl.length := ⟨_, rfl⟩
  rw [← hl] at HWI HRO HBg HFm hlen hcap ⊢
  rw [← hl2] at HLR HBg HFm hlb ⊢
  have HLN := hid_intro hl
  have HLB := hid_intro hl2
  obtain ⟨sa, hsa⟩ : ∃ sa, sa = a.size := ⟨_, rfl⟩
  have HSA := hid_intro hsa
  obtain ⟨W0, hW0⟩ : ∃ W0, W0 = w.alloc (.cells #[.slice none 0 0, .string ⟨#[]⟩, .int .i64 0, .int .i64 0, .slice none 0 0, .int .i64 0] 31) := ⟨_, rfl⟩
  have HB0 : Hid (Below w.heap.size w W0) := hid_intro (by rw [hW0]; exact (Below.refl _ _).alloc (Nat.le_refl _) _)
  have HR0 : Hid (BlkW w.heap.size [.slice none 0 0, .string ⟨#[]⟩, .int .i64 0, .int .i64 0, .slice none 0 0, .int .i64 0] W0) := hid_intro (by rw [hW0]; exact BlkW.new w [.slice none 0 0, .string ⟨#[]⟩, .int .i64 0, .int .i64 0, .slice none 0 0, .int .i64 0] 31)
  have HW := hid_intro hW0
  clear hI hL hsb hSm hwf hg hlay hl hl2 hsa hW0 hao
  by_cases hbig : 400 < len ∨ 8000 < a.size ∨ 400 < lb
  · have HE := hid_intro (HBg.out hbig)
    clear HWI HRO HNR HMO HLR HKY HBg HFm HGo HLay HG HI HL HSB HSM HSA HLN HLB
    go_enter Tryz.func9, Tryz.ntmps9
    by_cases h1 : 400 < len
    · have h1' : (400 : Int) < (len : Int) := by omega
      go_wp2_with fail
      refine bodyPost_ret (v := .agg #[.slice none 0 0, .string ⟨#[]⟩, .int .i64 0, .int .i64 0, .slice none 0 0, .int .i64 2]) (by simp [results, Tryz.results9, go_sem]) rfl ⟨_, rfl, by rw [HE.out.1, HE.out.2.1, HE.out.2.2]; exact loO_of (dso_nil _ _), (Below.refl _ _).alloc (Nat.le_refl _) _⟩
    have h1' : ¬ (400 : Int) < (len : Int) := by omega
    by_cases h2 : 8000 < a.size
    · have h2' : (8000 : Int) < (a.size : Int) := by omega
      go_wp2_with fail
      refine bodyPost_ret (v := .agg #[.slice none 0 0, .string ⟨#[]⟩, .int .i64 0, .int .i64 0, .slice none 0 0, .int .i64 2]) (by simp [results, Tryz.results9, go_sem]) rfl ⟨_, rfl, by rw [HE.out.1, HE.out.2.1, HE.out.2.2]; exact loO_of (dso_nil _ _), (Below.refl _ _).alloc (Nat.le_refl _) _⟩
    have h2' : ¬ (8000 : Int) < (a.size : Int) := by omega
    have h3' : (400 : Int) < (lb : Int) := by omega
    go_wp2_with fail
    refine bodyPost_ret (v := .agg #[.slice none 0 0, .string ⟨#[]⟩, .int .i64 0, .int .i64 0, .slice none 0 0, .int .i64 2]) (by simp [results, Tryz.results9, go_sem]) rfl ⟨_, rfl, by rw [HE.out.1, HE.out.2.1, HE.out.2.2]; exact loO_of (dso_nil _ _), (Below.refl _ _).alloc (Nat.le_refl _) _⟩
  have hb1 : ¬ (400 : Int) < (len : Int) := by omega
  have hb2 : ¬ (8000 : Int) < (a.size : Int) := by omega
  have hb3 : ¬ (400 : Int) < (lb : Int) := by omega
  replace HFm := hid_intro (HFm.out hbig)
  go_enter Tryz.func9, Tryz.ntmps9
  go_wp2_with fail
  rw [← HW.out]
  refine (HRO.out _ HB0.out).mono ?_
  rintro e w1 ⟨hb, hro⟩
  have HB1 := hid_intro (HB0.out.trans (hb.mono HB0.out.size))
  have HR1 := hid_intro (HR0.out.below hb)
  have HBr := hid_intro hb
  clear hb HB0 HR0 HW
  rcases hro with ⟨hlB, c, rfl⟩ | ⟨hlB, M, rfl, hrows⟩
  · have HE := hid_intro (HFm.out (by unfold isFormB; rw [hlB]; rfl))
    clear hlB
    obtain ⟨⟨rl, rk⟩, rf⟩ := HR1.out
    have p0 : w1.cell? ⟨w.heap.size, 0, none⟩ = some (.slice none 0 0) := rk 0 (by simp)
    have f0 : w1.frozen? ⟨w.heap.size, 0, none⟩ = false := rf 0 (by simp)
    have p1 : w1.cell? ⟨w.heap.size, 1, none⟩ = some (.string ⟨#[]⟩) := rk 1 (by simp)
    have f1 : w1.frozen? ⟨w.heap.size, 1, none⟩ = false := rf 1 (by simp)
    have p2 : w1.cell? ⟨w.heap.size, 2, none⟩ = some (.int .i64 0) := rk 2 (by simp)
    have f2 : w1.frozen? ⟨w.heap.size, 2, none⟩ = false := rf 2 (by simp)
    have p3 : w1.cell? ⟨w.heap.size, 3, none⟩ = some (.int .i64 0) := rk 3 (by simp)
    have f3 : w1.frozen? ⟨w.heap.size, 3, none⟩ = false := rf 3 (by simp)
    have p4 : w1.cell? ⟨w.heap.size, 4, none⟩ = some (.slice none 0 0) := rk 4 (by simp)
    have f4 : w1.frozen? ⟨w.heap.size, 4, none⟩ = false := rf 4 (by simp)
    have p5 : w1.cell? ⟨w.heap.size, 5, none⟩ = some (.int .i64 0) := rk 5 (by simp)
    have f5 : w1.frozen? ⟨w.heap.size, 5, none⟩ = false := rf 5 (by simp)
    have hg := StR.stL_grown w.heap.size [.slice none 0 0, .string ⟨#[]⟩, .int .i64 0, .int .i64 0, .slice none 0 0, .int .i64 1] 0 w1
    have HBF := hid_intro (HB1.out.grown hg HB1.out.size (fun k e => by simp only [Option.some.injEq] at e; omega))
    simp only [StR.stL, Nat.zero_add, Nat.reduceAdd] at HBF
    clear hg rk rf
    go_wp2_with fail
    refine bodyPost_ret (v := .agg #[.slice none 0 0, .string ⟨#[]⟩, .int .i64 0, .int .i64 0, .slice none 0 0, .int .i64 1]) (by simp [results, Tryz.results9, go_sem, p0, p1, p2, p3, p4, p5]) rfl ⟨_, rfl, by rw [HE.out.1, HE.out.2.1, HE.out.2.2]; exact loO_of (dso_nil _ _), HBF.out⟩
  have HLR2 := hid_intro (lB_iff.1 hlB)
  have HRW := hid_intro hrows
  have HlB := hid_intro hlB
  clear hrows hlB
  obtain ⟨b2, hb2e⟩ : ∃ b, b = NameR.nameB a := ⟨_, rfl⟩
  obtain ⟨b3, hb3e⟩ : ∃ b, b = decide (0 ≤ m ∧ m ≤ 2760) := ⟨_, rfl⟩
  obtain ⟨b4, hb4e⟩ : ∃ b, b = sB bl := ⟨_, rfl⟩
  rw [← hb2e] at HNR
  rw [← hb3e] at HMO
  rw [← hb4e] at HLR
  have HFB : Hid (isFormB ds a m bl = (b2 && (b3 && b4))) := hid_intro (by unfold isFormB; rw [HlB.out, ← hb2e, ← hb3e, ← hb4e]; rfl)
  have Hb4 := hid_intro hb4e
  clear hb2e hb3e hb4e
  cases b2
  · have HE := hid_intro (HFm.out (by rw [HFB.out]; rfl))
    go_wp2_with fail
    refine (HNR.out _).mono ?_
    rintro e w2 ⟨rfl, rfl⟩
    obtain ⟨⟨rl, rk⟩, rf⟩ := HR1.out
    have p0 : w2.cell? ⟨w.heap.size, 0, none⟩ = some (.slice none 0 0) := rk 0 (by simp)
    have f0 : w2.frozen? ⟨w.heap.size, 0, none⟩ = false := rf 0 (by simp)
    have p1 : w2.cell? ⟨w.heap.size, 1, none⟩ = some (.string ⟨#[]⟩) := rk 1 (by simp)
    have f1 : w2.frozen? ⟨w.heap.size, 1, none⟩ = false := rf 1 (by simp)
    have p2 : w2.cell? ⟨w.heap.size, 2, none⟩ = some (.int .i64 0) := rk 2 (by simp)
    have f2 : w2.frozen? ⟨w.heap.size, 2, none⟩ = false := rf 2 (by simp)
    have p3 : w2.cell? ⟨w.heap.size, 3, none⟩ = some (.int .i64 0) := rk 3 (by simp)
    have f3 : w2.frozen? ⟨w.heap.size, 3, none⟩ = false := rf 3 (by simp)
    have p4 : w2.cell? ⟨w.heap.size, 4, none⟩ = some (.slice none 0 0) := rk 4 (by simp)
    have f4 : w2.frozen? ⟨w.heap.size, 4, none⟩ = false := rf 4 (by simp)
    have p5 : w2.cell? ⟨w.heap.size, 5, none⟩ = some (.int .i64 0) := rk 5 (by simp)
    have f5 : w2.frozen? ⟨w.heap.size, 5, none⟩ = false := rf 5 (by simp)
    have hg := StR.stL_grown w.heap.size [.slice none 0 0, .string ⟨#[]⟩, .int .i64 0, .int .i64 0, .slice none 0 0, .int .i64 1] 0 w2
    have HBF := hid_intro (HB1.out.grown hg HB1.out.size (fun k e => by simp only [Option.some.injEq] at e; omega))
    simp only [StR.stL, Nat.zero_add, Nat.reduceAdd] at HBF
    clear hg rk rf
    go_wp2_with fail
    refine bodyPost_ret (v := .agg #[.slice none 0 0, .string ⟨#[]⟩, .int .i64 0, .int .i64 0, .slice none 0 0, .int .i64 1]) (by simp [results, Tryz.results9, go_sem, p0, p1, p2, p3, p4, p5]) rfl ⟨_, rfl, by rw [HE.out.1, HE.out.2.1, HE.out.2.2]; exact loO_of (dso_nil _ _), HBF.out⟩
  cases b3
  · have HE := hid_intro (HFm.out (by rw [HFB.out]; rfl))
    go_wp2_with fail
    refine (HNR.out _).mono ?_
    rintro e w2 ⟨rfl, rfl⟩
    go_wp2_with fail
    refine (HMO.out _).mono ?_
    rintro e w3 ⟨rfl, rfl⟩
    obtain ⟨⟨rl, rk⟩, rf⟩ := HR1.out
    have p0 : w3.cell? ⟨w.heap.size, 0, none⟩ = some (.slice none 0 0) := rk 0 (by simp)
    have f0 : w3.frozen? ⟨w.heap.size, 0, none⟩ = false := rf 0 (by simp)
    have p1 : w3.cell? ⟨w.heap.size, 1, none⟩ = some (.string ⟨#[]⟩) := rk 1 (by simp)
    have f1 : w3.frozen? ⟨w.heap.size, 1, none⟩ = false := rf 1 (by simp)
    have p2 : w3.cell? ⟨w.heap.size, 2, none⟩ = some (.int .i64 0) := rk 2 (by simp)
    have f2 : w3.frozen? ⟨w.heap.size, 2, none⟩ = false := rf 2 (by simp)
    have p3 : w3.cell? ⟨w.heap.size, 3, none⟩ = some (.int .i64 0) := rk 3 (by simp)
    have f3 : w3.frozen? ⟨w.heap.size, 3, none⟩ = false := rf 3 (by simp)
    have p4 : w3.cell? ⟨w.heap.size, 4, none⟩ = some (.slice none 0 0) := rk 4 (by simp)
    have f4 : w3.frozen? ⟨w.heap.size, 4, none⟩ = false := rf 4 (by simp)
    have p5 : w3.cell? ⟨w.heap.size, 5, none⟩ = some (.int .i64 0) := rk 5 (by simp)
    have f5 : w3.frozen? ⟨w.heap.size, 5, none⟩ = false := rf 5 (by simp)
    have hg := StR.stL_grown w.heap.size [.slice none 0 0, .string ⟨#[]⟩, .int .i64 0, .int .i64 0, .slice none 0 0, .int .i64 1] 0 w3
    have HBF := hid_intro (HB1.out.grown hg HB1.out.size (fun k e => by simp only [Option.some.injEq] at e; omega))
    simp only [StR.stL, Nat.zero_add, Nat.reduceAdd] at HBF
    clear hg rk rf
    go_wp2_with fail
    refine bodyPost_ret (v := .agg #[.slice none 0 0, .string ⟨#[]⟩, .int .i64 0, .int .i64 0, .slice none 0 0, .int .i64 1]) (by simp [results, Tryz.results9, go_sem, p0, p1, p2, p3, p4, p5]) rfl ⟨_, rfl, by rw [HE.out.1, HE.out.2.1, HE.out.2.2]; exact loO_of (dso_nil _ _), HBF.out⟩
  go_wp2_with fail
  refine (HNR.out _).mono ?_
  rintro e w2 ⟨rfl, rfl⟩
  go_wp2_with fail
  refine (HMO.out _).mono ?_
  rintro e w3 ⟨rfl, rfl⟩
  go_wp2_with fail
  refine (HLR.out _ HB1.out).mono ?_
  rintro e w4 ⟨rfl, hb4⟩
  have HB4 := hid_intro (HB1.out.trans (hb4.mono HB1.out.size))
  have HR4 := hid_intro (HR1.out.below hb4)
  have HBr4 := hid_intro hb4
  clear hb4 HB1 HR1
  cases b4
  · have HE := hid_intro (HFm.out (by rw [HFB.out]; rfl))
    obtain ⟨⟨rl, rk⟩, rf⟩ := HR4.out
    have p0 : w4.cell? ⟨w.heap.size, 0, none⟩ = some (.slice none 0 0) := rk 0 (by simp)
    have f0 : w4.frozen? ⟨w.heap.size, 0, none⟩ = false := rf 0 (by simp)
    have p1 : w4.cell? ⟨w.heap.size, 1, none⟩ = some (.string ⟨#[]⟩) := rk 1 (by simp)
    have f1 : w4.frozen? ⟨w.heap.size, 1, none⟩ = false := rf 1 (by simp)
    have p2 : w4.cell? ⟨w.heap.size, 2, none⟩ = some (.int .i64 0) := rk 2 (by simp)
    have f2 : w4.frozen? ⟨w.heap.size, 2, none⟩ = false := rf 2 (by simp)
    have p3 : w4.cell? ⟨w.heap.size, 3, none⟩ = some (.int .i64 0) := rk 3 (by simp)
    have f3 : w4.frozen? ⟨w.heap.size, 3, none⟩ = false := rf 3 (by simp)
    have p4 : w4.cell? ⟨w.heap.size, 4, none⟩ = some (.slice none 0 0) := rk 4 (by simp)
    have f4 : w4.frozen? ⟨w.heap.size, 4, none⟩ = false := rf 4 (by simp)
    have p5 : w4.cell? ⟨w.heap.size, 5, none⟩ = some (.int .i64 0) := rk 5 (by simp)
    have f5 : w4.frozen? ⟨w.heap.size, 5, none⟩ = false := rf 5 (by simp)
    have hg := StR.stL_grown w.heap.size [.slice none 0 0, .string ⟨#[]⟩, .int .i64 0, .int .i64 0, .slice none 0 0, .int .i64 1] 0 w4
    have HBF := hid_intro (HB4.out.grown hg HB4.out.size (fun k e => by simp only [Option.some.injEq] at e; omega))
    simp only [StR.stL, Nat.zero_add, Nat.reduceAdd] at HBF
    clear hg rk rf
    go_wp2_with fail
    refine bodyPost_ret (v := .agg #[.slice none 0 0, .string ⟨#[]⟩, .int .i64 0, .int .i64 0, .slice none 0 0, .int .i64 1]) (by simp [results, Tryz.results9, go_sem, p0, p1, p2, p3, p4, p5]) rfl ⟨_, rfl, by rw [HE.out.1, HE.out.2.1, HE.out.2.2]; exact loO_of (dso_nil _ _), HBF.out⟩
  have HG2 := hid_intro (HGo.out (by rw [← HLN.out, ← HLB.out]; exact hbig) (by rw [HFB.out]; rfl))
  have HSR := hid_intro (sB_iff.1 Hb4.out.symm)
  clear HFm HFB HNR HMO HLR HGo HBg Hb4 HRO
  obtain ⟨mb, hlk⟩ := rows_look W0.heap.size M ds a m w3 HRW.out HLR2.out HG.out (fun d hd => (HSM.out d hd).2.2)
  have hnF : (net ds a m).length ≤ 180 := by
    have h1 := (net_facts (ds := ds) ds.length (Nat.le_refl _) HLR2.out.2.1 a m).2.1
    rw [List.take_length] at h1
    have h2 := HLR2.out.1
    omega
  have HNX := hid_intro (fun W (hb : Below w4.heap.size w4 W) => inext ao bo cap capb len (cnt ds a m) a m mb ((net ds a m).filter nz) bl W (by omega) (by have := cnt_le ds a m; have := HLN.out; omega)
    (fun W' hb' => (hlk W' ((HBr4.out.trans (hb.mono HBr4.out.size)).trans (hb'.mono (HBr4.out.trans (hb.mono HBr4.out.size)).size))).2)
    (by have := HSR.out.1; omega) (by have := List.length_filter_le nz (net ds a m); omega) HSB.out
    (fun e he => net_size (a := a) (m := m) ds [] (fun d hd => (HSM.out d hd).2.2) (fun y h => by cases h) e (List.mem_filter.1 he).1)
    (num_of HSR.out)
    (fun e he => by
      have h1 := ov_net HLR2.out a m
      unfold ovB at h1
      rw [List.all_eq_true] at h1
      have := h1 e (List.mem_filter.1 he).1
      unfold nOk at this
      exact of_decide_eq_true this)
    (rise_of HSR.out) (HL.out.below (HB4.out.trans (hb.mono HB4.out.size))))
  have HSG : Hid (∀ e ∈ clL (moreG ds a m bl), e.i.size ≤ 1048576) := hid_intro (fun e he => by
    have h1 : e ∈ moreG ds a m bl := by
      unfold clL at he
      cases h : ovB (moreG ds a m bl)
      · rw [h] at he; simp at he
      · rw [h, cond_true] at he; exact (List.mem_filter.1 he).1
    exact all_size HSB.out (fun e he => net_size (a := a) (m := m) ds [] (fun d hd => (HSM.out d hd).2.2) (fun y h => by cases h) e (List.mem_filter.1 he).1) e h1)
  have HLG : Hid ((clL (moreG ds a m bl)).length ≤ 1048576) := hid_intro (by
    have h1 : (clL (moreG ds a m bl)).length ≤ (moreG ds a m bl).length := by unfold clL; cases ovB (moreG ds a m bl); exact Nat.zero_le _; exact List.length_filter_le _ _
    have h2 := all_len bl ((net ds a m).filter nz) (-1)
    have h3 := List.length_filter_le nz (net ds a m)
    have h4 := HSR.out.1
    unfold moreG at *
    omega)
  have HNZ : Hid (∀ x ∈ ds, x.ls.filter nz = x.ls) := hid_intro (fun x hx => by
    obtain ⟨i, hi, rfl⟩ := List.getElem_of_mem hx
    have := (HLR2.out.2.1 i hi).1
    rw [show ds.getD i D.zero = ds[i] by simp [List.getD, hi]] at this
    exact right_nz (dB_lines this))
  rw [← HLB.out] at HNX
  have HGE : Hid (moreG ds a m bl = all bl ((net ds a m).filter nz) (-1)) := hid_intro rfl
  rw [← HGE.out] at HNX
  obtain ⟨WB, hWB⟩ : ∃ WB, WB = w4.alloc (.cells #[.string a, .int .i64 m] 61) := ⟨_, rfl⟩
  have hB5 : Below w4.heap.size w4 WB := by rw [hWB]; exact (Below.refl _ _).alloc (Nat.le_refl _) _
  have HSI := hid_intro (si_of (rb := W0.heap.size) (c := cnt ds a m) (mb := mb) (show BlkW w4.heap.size [.string a, .int .i64 m] WB by rw [hWB]; exact BlkW.new w4 [.string a, .int .i64 m] 61) (fun W hb => (hlk W (HBr4.out.trans ((hB5.trans (hb.mono hB5.size)).mono HBr4.out.size))).1))
  have HB5 := hid_intro (HB4.out.trans (hB5.mono HB4.out.size))
  have HR5 := hid_intro (HR4.out.below hB5)
  have HNX5 := hid_intro (fun W (hb : Below WB.heap.size WB W) => HNX.out W (hB5.trans (hb.mono hB5.size)))
  have HW := hid_intro hWB
  obtain ⟨pb, hpb⟩ : ∃ pb, pb = w4.heap.size := ⟨_, rfl⟩
  rw [← hpb] at HSI
  have HPB := hid_intro hpb
  generalize hcc : cnt ds a m = cc at *
  generalize hG0 : moreG ds a m bl = G at *
  clear hlk hnF hB5 hWB hpb HNX HGE HB4 HR4 HBr4 HBr HSR HRW
  go_wp2_with fail
  rw [← HW.out, ← HPB.out]
  clear HW HPB
  refine wp_region_held_drew (S := (fun W => Below WB.heap.size WB W ∧ pb < W.heap.size ∧ W.cell? ⟨pb, 0, none⟩ = some (.string a) ∧ W.cell? ⟨pb, 1, none⟩ = some (.int .i64 m) ∧ (Instr.lookup 55 (.map (some W0.heap.size)) (.agg #[.string a, .int .i64 m]) false).run Tryz.prog W = .ok (.agg #[.int .i64 cc, .map mb]) W)) (by kernel_rfl) (HSI.out _ (Below.refl WB.heap.size WB).drew) (fun hHeld => ?_)
  have hB0 := (Below.refl WB.heap.size WB).drew
  generalize WB.drew = kd at *
  refine wpAnyH_take (i := 0) (oi := { dst := some 55, op := Op.move (Operand.tmp 0), type := 26, pos := "l09_ledger.go:220", after := #[], guard := none }) (v := ?_) rfl (by kernel_rfl) (by kernel_rfl) (by kernel_rfl) (fun _ _ _ h => h) (Or.inl ⟨by rfl, ?_⟩) (by assumption) ?_
  rotate_left
  · (intro w hSw; (try dsimp only at hSw); go_simp) <;> with_reducible rfl
  try simp only [Act.put, List.setIfInBounds_toArray, List.set_cons_zero, List.set_cons_succ]
  refine wpAnyH_take (i := 1) (oi := { dst := some 56, op := Op.load 61 (Operand.tmp 11), type := 61, pos := "l09_ledger.go:220", after := #[], guard := none }) (v := ?_) rfl (by kernel_rfl) (by kernel_rfl) (by kernel_rfl) (fun _ _ _ h => h) (Or.inl ⟨by rfl, ?_⟩) (by assumption) ?_
  rotate_left
  · (intro w hSw; (try dsimp only at hSw); go_simp) <;> with_reducible rfl
  try simp only [Act.put, List.setIfInBounds_toArray, List.set_cons_zero, List.set_cons_succ]
  refine wpAnyH_take (i := 2) (oi := { dst := some 57, op := Op.move (Operand.tmp 9), type := 55, pos := "l09_ledger.go:220", after := #[], guard := none }) (v := ?_) rfl (by kernel_rfl) (by kernel_rfl) (by kernel_rfl) (fun _ _ _ h => h) (Or.inl ⟨by rfl, ?_⟩) (by assumption) ?_
  rotate_left
  · (intro w hSw; (try dsimp only at hSw); go_simp) <;> with_reducible rfl
  try simp only [Act.put, List.setIfInBounds_toArray, List.set_cons_zero, List.set_cons_succ]
  refine wpAnyH_take (i := 3) (oi := { dst := some 58, op := Op.load 61 (Operand.tmp 11), type := 61, pos := "l09_ledger.go:220", after := #[], guard := none }) (v := ?_) rfl (by kernel_rfl) (by kernel_rfl) (by kernel_rfl) (fun _ _ _ h => h) (Or.inl ⟨by rfl, ?_⟩) (by assumption) ?_
  rotate_left
  · (intro w hSw; (try dsimp only at hSw); go_simp) <;> with_reducible rfl
  try simp only [Act.put, List.setIfInBounds_toArray, List.set_cons_zero, List.set_cons_succ]
  refine wpAnyH_take (i := 4) (oi := { dst := some 59, op := Op.lookup 55 (Operand.tmp 57) (Operand.tmp 58) false, type := 67, pos := "l09_ledger.go:220", after := #[{ on := 2, ground := Ground.data }, { on := 3, ground := Ground.data }], guard := none }) (v := ?_) rfl (by kernel_rfl) (by kernel_rfl) (by kernel_rfl) (fun _ _ _ h => h) (Or.inl ⟨by rfl, ?_⟩) (by assumption) ?_
  rotate_left
  · (intro w hSw; (try dsimp only at hSw); go_simp) <;> with_reducible rfl
  try simp only [Act.put, List.setIfInBounds_toArray, List.set_cons_zero, List.set_cons_succ]
  refine wpAnyH_take (i := 5) (oi := { dst := some 60, op := Op.move (Operand.tmp 3), type := 27, pos := "l09_ledger.go:220", after := #[], guard := none }) (v := ?_) rfl (by kernel_rfl) (by kernel_rfl) (by kernel_rfl) (fun _ _ _ h => h) (Or.inl ⟨by rfl, ?_⟩) (by assumption) ?_
  rotate_left
  · (intro w hSw; (try dsimp only at hSw); go_simp) <;> with_reducible rfl
  try simp only [Act.put, List.setIfInBounds_toArray, List.set_cons_zero, List.set_cons_succ]
  refine wpAnyH_ready (rs := [6, 10]) (by kernel_rfl) (by simp) ?_
  refine AllReadyH.cons (o := { dst := some 61, op := Op.call { callee := Callee.value (Operand.func 30), args := #[Operand.tmp 55, Operand.tmp 56, Operand.tmp 59, Operand.tmp 60], argTypes := #[26, 61, 67, 27] }, type := 62, pos := "l09_ledger.go:220", after := #[{ on := 0, ground := Ground.data }, { on := 1, ground := Ground.data }, { on := 4, ground := Ground.data }, { on := 5, ground := Ground.data }], guard := none }) rfl (fun K hK => ?_) (AllReadyH.cons (o := { dst := some 12, op := Op.alloc 29, type := 0, pos := "l09_ledger.go:220", after := #[], guard := none }) rfl (fun K hK => ?_) AllReadyH.nil)
  · go_simp
    go_at_call 30
    refine (HNX5.out _ hB0).mono ?_
    rintro e q1 hnx
    obtain ⟨s1, x1, y1, la1, n1, lc1, ev, rfl, hns, hq1⟩ := hnx.form
    clear hnx
    try go_wp2_with fail
    have hB1 := hB0.trans (hq1.mono hB0.size)
    have hk1 := HSI.out _ hB1
    refine hK.out _ _ hk1 (fun _ => ?_)
    clear hK K
    try simp only [Act.put, List.setIfInBounds_toArray, List.set_cons_zero, List.set_cons_succ]
    refine wpAnyH_take (i := 7) (oi := { dst := some 54, op := Op.move (Operand.tmp 61), type := 62, pos := "l09_ledger.go:220", after := #[{ on := 6, ground := Ground.data }], guard := none }) (v := ?_) rfl (by kernel_rfl) (by kernel_rfl) (by kernel_rfl) (fun _ _ _ h => h) (Or.inl ⟨by rfl, ?_⟩) (by assumption) ?_
    rotate_left
    · (intro w hSw; (try dsimp only at hSw); go_simp) <;> with_reducible rfl
    try simp only [Act.put, List.setIfInBounds_toArray, List.set_cons_zero, List.set_cons_succ]
    refine wpAnyH_take (i := 8) (oi := { dst := some 62, op := Op.extract (Operand.tmp 54) 0, type := 29, pos := "l09_ledger.go:220", after := #[{ on := 7, ground := Ground.data }], guard := none }) (v := ?_) rfl (by kernel_rfl) (by kernel_rfl) (by kernel_rfl) (fun _ _ _ h => h) (Or.inl ⟨by rfl, ?_⟩) (by assumption) ?_
    rotate_left
    · (intro w hSw; (try dsimp only at hSw); go_simp) <;> with_reducible rfl
    try simp only [Act.put, List.setIfInBounds_toArray, List.set_cons_zero, List.set_cons_succ]
    refine wpAnyH_take (i := 9) (oi := { dst := some 63, op := Op.extract (Operand.tmp 54) 1, type := 57, pos := "l09_ledger.go:220", after := #[{ on := 7, ground := Ground.data }, { on := 11, ground := Ground.gcOnly Departure.lateStores }], guard := none }) (v := ?_) rfl (by kernel_rfl) (by kernel_rfl) (by kernel_rfl) (fun _ _ _ h => h) (Or.inl ⟨by rfl, ?_⟩) (by assumption) ?_
    rotate_left
    · (intro w hSw; (try dsimp only at hSw); go_simp) <;> with_reducible rfl
    try simp only [Act.put, List.setIfInBounds_toArray, List.set_cons_zero, List.set_cons_succ]
    refine wpAnyH_ready (rs := [10]) (by kernel_rfl) (by simp) ?_
    refine AllReadyH.cons (o := { dst := some 12, op := Op.alloc 29, type := 0, pos := "l09_ledger.go:220", after := #[], guard := none }) rfl (fun K hK => ?_) AllReadyH.nil
    go_simp
    try go_wp2_with fail
    have hB2 := hB1.alloc hB1.size (Obj.cells #[.string ⟨#[]⟩, .int .i64 0, .int .i64 0, .slice none 0 0] 29)
    have hD2 := BlkW.new q1 [.string ⟨#[]⟩, .int .i64 0, .int .i64 0, .slice none 0 0] 29
    have hDL : WB.heap.size ≤ q1.heap.size := hB1.size
    have hns2 := hns.below ((Below.refl q1.heap.size q1).alloc (Nat.le_refl _) (Obj.cells #[.string ⟨#[]⟩, .int .i64 0, .int .i64 0, .slice none 0 0] 29))
    have hk2 := HSI.out _ hB2
    refine hK.out _ _ hk2 (fun _ => ?_)
    clear hK K
    try simp only [Act.put, List.setIfInBounds_toArray, List.set_cons_zero, List.set_cons_succ]
    obtain ⟨dB, hdB⟩ : ∃ z, z = q1.heap.size := ⟨_, rfl⟩
    obtain ⟨k2, hk2e⟩ : ∃ z, z = q1.alloc (Obj.cells #[.string ⟨#[]⟩, .int .i64 0, .int .i64 0, .slice none 0 0] 29) := ⟨_, rfl⟩
    rw [← hdB] at hD2 hDL ⊢
    rw [← hk2e] at hB2 hD2 hk2 hns2 ⊢
    try rw [← hk2e] at *
    have hx : dB < kd.heap.size ∨ q1.heap.size ≤ dB := .inr (Nat.le_of_eq hdB.symm)
    clear hdB hk2e
    refine wpAnyH_ready (rs := [11]) (by kernel_rfl) (by simp) ?_
    refine AllReadyH.cons (o := { dst := none, op := Op.store 29 (Operand.tmp 12) (Operand.tmp 62), type := 0, pos := "l09_ledger.go:220", after := #[{ on := 10, ground := Ground.data }, { on := 8, ground := Ground.data }, { on := 6, ground := Ground.chain }, { on := 0, ground := Ground.phase }, { on := 1, ground := Ground.phase }, { on := 2, ground := Ground.phase }, { on := 3, ground := Ground.phase }, { on := 4, ground := Ground.phase }, { on := 5, ground := Ground.phase }, { on := 6, ground := Ground.phase }, { on := 7, ground := Ground.phase }, { on := 8, ground := Ground.phase }, { on := 9, ground := Ground.textOnly Departure.lateStores }, { on := 10, ground := Ground.phase }], guard := none }) rfl (fun K hK => ?_) AllReadyH.nil
    have hDx := hD2
    obtain ⟨⟨dl, dk⟩, df⟩ := hDx
    have d0 : k2.cell? ⟨dB, 0, none⟩ = some (.string ⟨#[]⟩) := dk 0 (by simp)
    have g0 : k2.frozen? ⟨dB, 0, none⟩ = false := df 0 (by simp)
    have d1 : k2.cell? ⟨dB, 1, none⟩ = some (.int .i64 0) := dk 1 (by simp)
    have g1 : k2.frozen? ⟨dB, 1, none⟩ = false := df 1 (by simp)
    have d2 : k2.cell? ⟨dB, 2, none⟩ = some (.int .i64 0) := dk 2 (by simp)
    have g2 : k2.frozen? ⟨dB, 2, none⟩ = false := df 2 (by simp)
    have d3 : k2.cell? ⟨dB, 3, none⟩ = some (.slice none 0 0) := dk 3 (by simp)
    have g3 : k2.frozen? ⟨dB, 3, none⟩ = false := df 3 (by simp)
    clear dk df
    go_simp
    try go_wp2_with fail
    have hgr := StR.stL_grown dB [.string s1, .int .i64 x1, .int .i64 y1, .slice la1 n1 lc1] 0 k2
    have hB3 := hB2.grown hgr hB2.size (fun k e => by simp only [Option.some.injEq] at e; omega)
    have hDF := OwG.stL_blkW hD2 (show ([.string ⟨#[]⟩, .int .i64 0, .int .i64 0, .slice none 0 0] : List Value).length = [.string s1, .int .i64 x1, .int .i64 y1, .slice la1 n1 lc1].length from rfl)
    have hnsF := hns2.grown hgr hx
    simp only [StR.stL, Nat.zero_add, Nat.reduceAdd] at hB3 hDF hnsF
    have hk3 := HSI.out _ hB3
    refine hK.out _ _ hk3 (fun _ => ?_)
    clear hK K
    try simp only [Act.put, List.setIfInBounds_toArray, List.set_cons_zero, List.set_cons_succ]
    refine wpAnyH_take (i := 12) (oi := { dst := some 10, op := Op.assign (Operand.tmp 63), type := 57, pos := "l09_ledger.go:220", after := #[{ on := 9, ground := Ground.data }, { on := 11, ground := Ground.chain }, { on := 0, ground := Ground.phase }, { on := 1, ground := Ground.phase }, { on := 2, ground := Ground.phase }, { on := 3, ground := Ground.phase }, { on := 4, ground := Ground.phase }, { on := 5, ground := Ground.phase }, { on := 6, ground := Ground.phase }, { on := 7, ground := Ground.phase }, { on := 8, ground := Ground.phase }, { on := 9, ground := Ground.phase }, { on := 10, ground := Ground.phase }, { on := 11, ground := Ground.phase }], guard := none }) (v := ?_) rfl (by kernel_rfl) (by kernel_rfl) (by kernel_rfl) (fun _ _ _ h => h) (Or.inl ⟨by rfl, ?_⟩) (by assumption) ?_
    rotate_left
    · (intro w hSw; (try dsimp only at hSw); go_simp) <;> with_reducible rfl
    try simp only [Act.put, List.setIfInBounds_toArray, List.set_cons_zero, List.set_cons_succ]
    refine wpAnyH_done (by kernel_rfl) ?_ _
    have HDW : Hid (¬ dB = w.heap.size) := hid_intro (by have := HR5.out.1.1; omega)
    clear HNX5 HSI hgr hx hDL
    have HB6 := hid_intro (HB5.out.trans (hB3.mono HB5.out.size))
    have HR6 := hid_intro (HR5.out.below hB3)
    have HD6 := hid_intro hDF
    have HN6 := hid_intro hnsF
    clear hDF hnsF
    generalize ((((k2.setCell ⟨dB, 0, none⟩ (.string s1)).setCell ⟨dB, 1, none⟩ (.int .i64 x1)).setCell ⟨dB, 2, none⟩ (.int .i64 y1)).setCell ⟨dB, 3, none⟩ (.slice la1 n1 lc1)) = W6 at *
    have HLy := hid_intro (HLay.out.below HB6.out)
    rcases HN6.out with ⟨cd, rfl, hcs⟩ | ⟨ho, hne, h30, rfl, rfl, rfl, rfl, rfl, how, -⟩
    · have HE : Hid (isD ds a m bl = [] ∧ isX ds a m bl = D.zero ∧ isC ds a m bl = cd ∧ cd ≠ 0) := hid_intro (by
        obtain ⟨g1, g2, g3, g4⟩ := HG2.out
        rcases hcs with ⟨h1, rfl⟩ | ⟨h1, h2, h3, rfl⟩ | ⟨h1, h2, h3, rfl⟩
        · have := g1 h1; exact ⟨this.1, this.2.1, this.2.2, by decide⟩
        · have := g2 h1 h2 h3; exact ⟨this.1, this.2.1, this.2.2, by decide⟩
        · have := g3 h1 h2 (by rw [← HLN.out]; exact h3); exact ⟨this.1, this.2.1, this.2.2, by decide⟩)
      have hcd := HE.out.2.2.2
      clear hcs
      go_wp2_with fail
      refine (AsD.code_hit cd _ HLy.out).mono ?_
      rintro e w7 ⟨rfl, hb7⟩
      have HB7 := hid_intro (HB6.out.trans (hb7.mono HB6.out.size))
      have HR7 := hid_intro (HR6.out.below hb7)
      clear hb7
      obtain ⟨⟨rl, rk⟩, rf⟩ := HR7.out
      have p0 : w7.cell? ⟨w.heap.size, 0, none⟩ = some (.slice none 0 0) := rk 0 (by simp)
      have f0 : w7.frozen? ⟨w.heap.size, 0, none⟩ = false := rf 0 (by simp)
      have p1 : w7.cell? ⟨w.heap.size, 1, none⟩ = some (.string ⟨#[]⟩) := rk 1 (by simp)
      have f1 : w7.frozen? ⟨w.heap.size, 1, none⟩ = false := rf 1 (by simp)
      have p2 : w7.cell? ⟨w.heap.size, 2, none⟩ = some (.int .i64 0) := rk 2 (by simp)
      have f2 : w7.frozen? ⟨w.heap.size, 2, none⟩ = false := rf 2 (by simp)
      have p3 : w7.cell? ⟨w.heap.size, 3, none⟩ = some (.int .i64 0) := rk 3 (by simp)
      have f3 : w7.frozen? ⟨w.heap.size, 3, none⟩ = false := rf 3 (by simp)
      have p4 : w7.cell? ⟨w.heap.size, 4, none⟩ = some (.slice none 0 0) := rk 4 (by simp)
      have f4 : w7.frozen? ⟨w.heap.size, 4, none⟩ = false := rf 4 (by simp)
      have p5 : w7.cell? ⟨w.heap.size, 5, none⟩ = some (.int .i64 0) := rk 5 (by simp)
      have f5 : w7.frozen? ⟨w.heap.size, 5, none⟩ = false := rf 5 (by simp)
      have hg := StR.stL_grown w.heap.size [.slice none 0 0, .string ⟨#[]⟩, .int .i64 0, .int .i64 0, .slice none 0 0, .int .i64 cd] 0 w7
      have HBF := hid_intro (HB7.out.grown hg HB7.out.size (fun k e => by simp only [Option.some.injEq] at e; omega))
      simp only [StR.stL, Nat.zero_add, Nat.reduceAdd] at HBF
      clear hg rk rf
      go_wp2_with fail
      refine bodyPost_ret (v := .agg #[.slice none 0 0, .string ⟨#[]⟩, .int .i64 0, .int .i64 0, .slice none 0 0, .int .i64 cd]) (by simp [results, Tryz.results9, go_sem, p0, p1, p2, p3, p4, p5]) rfl ⟨_, rfl, by rw [HE.out.1, HE.out.2.1, HE.out.2.2.1]; exact loO_of (dso_nil _ _), HBF.out⟩
    · have HE := hid_intro (HG2.out.2.2.2 ho hne (by rw [← HLN.out]; exact h30))
      have HOW := hid_intro how
      clear ho hne how
      go_wp2_with fail
      refine (AsD.code_nil _).mono ?_
      rintro e w7 ⟨rfl, hb7⟩
      have HB7 := hid_intro (HB6.out.trans (hb7.mono HB6.out.size))
      have HR7 := hid_intro (HR6.out.below hb7)
      have HD7 := hid_intro (HD6.out.below hb7)
      have HO7 := hid_intro (own_below HOW.out hb7)
      clear hb7 HB6 HR6 HD6 HOW HN6
      go_wp2_with fail
      have hb0 := (Below.refl w7.heap.size w7).drew
      have hB0 := HB7.out.trans (hb0.mono HB7.out.size)
      have hR0 := HR7.out.below hb0
      have hD0 := HD7.out.below hb0
      have hO0 := own_below HO7.out hb0
      have HSD : Hid (∀ W, BlkW dB [.string s1, .int .i64 x1, .int .i64 (cc : Nat), .slice la1 (clL G).length lc1] W → (fun W => dB < W.heap.size ∧ W.cell? ⟨dB, 0, none⟩ = some (.string s1) ∧ W.cell? ⟨dB, 1, none⟩ = some (.int .i64 x1) ∧ W.cell? ⟨dB, 2, none⟩ = some (.int .i64 (cc : Nat)) ∧ W.cell? ⟨dB, 3, none⟩ = some (.slice la1 (clL G).length lc1)) W) := hid_intro (fun W h => ⟨h.1.1, h.1.2 0 (by simp), h.1.2 1 (by simp), h.1.2 2 (by simp), h.1.2 3 (by simp)⟩)
      have HSmD : Hid ((⟨s1, x1, (cc : Nat), clL G⟩ : D).Sm) := hid_intro ⟨hga, HLG.out, HSG.out⟩
      have HND : Hid (∀ x ∈ ds ++ [(⟨s1, x1, (cc : Nat), clL G⟩ : D)], x.ls.filter nz = x.ls) := hid_intro (fun x hx => by
        rcases List.mem_append.1 hx with h | h
        · exact HNZ.out x h
        · rw [List.mem_singleton] at h; subst h; exact clL_nz G)
      clear hb0 HB7 HR7 HD7 HO7
      refine wp_region_held_drew (S := (fun W => dB < W.heap.size ∧ W.cell? ⟨dB, 0, none⟩ = some (.string s1) ∧ W.cell? ⟨dB, 1, none⟩ = some (.int .i64 x1) ∧ W.cell? ⟨dB, 2, none⟩ = some (.int .i64 (cc : Nat)) ∧ W.cell? ⟨dB, 3, none⟩ = some (.slice la1 (clL G).length lc1))) (by kernel_rfl) (HSD.out _ hD0) (fun hHeld => ?_)
      generalize w7.drew = kd at *
      refine wpAnyH_take (i := 0) (oi := { dst := some 70, op := Op.move (Operand.tmp 0), type := 26, pos := "l09_ledger.go:224", after := #[], guard := none }) (v := ?_) rfl (by kernel_rfl) (by kernel_rfl) (by kernel_rfl) (fun _ _ _ h => h) (Or.inl ⟨by rfl, ?_⟩) (by assumption) ?_
      rotate_left
      · (intro w hSw; (try dsimp only at hSw); go_simp) <;> with_reducible rfl
      try simp only [Act.put, List.setIfInBounds_toArray, List.set_cons_zero, List.set_cons_succ]
      refine wpAnyH_take (i := 1) (oi := { dst := some 71, op := Op.load 29 (Operand.tmp 12), type := 29, pos := "l09_ledger.go:224", after := #[], guard := none }) (v := ?_) rfl (by kernel_rfl) (by kernel_rfl) (by kernel_rfl) (fun _ _ _ h => h) (Or.inl ⟨by rfl, ?_⟩) (by assumption) ?_
      rotate_left
      · (intro w hSw; (try dsimp only at hSw); go_simp) <;> with_reducible rfl
      try simp only [Act.put, List.setIfInBounds_toArray, List.set_cons_zero, List.set_cons_succ]
      refine wpAnyH_take (i := 3) (oi := { dst := some 73, op := Op.load 29 (Operand.tmp 12), type := 29, pos := "l09_ledger.go:224", after := #[], guard := none }) (v := ?_) rfl (by kernel_rfl) (by kernel_rfl) (by kernel_rfl) (fun _ _ _ h => h) (Or.inl ⟨by rfl, ?_⟩) (by assumption) ?_
      rotate_left
      · (intro w hSw; (try dsimp only at hSw); go_simp) <;> with_reducible rfl
      try simp only [Act.put, List.setIfInBounds_toArray, List.set_cons_zero, List.set_cons_succ]
      refine wpAnyH_ready (rs := [2]) (by kernel_rfl) (by simp) ?_
      refine AllReadyH.cons (o := { dst := some 72, op := Op.call { callee := Callee.value (Operand.func 32), args := #[Operand.tmp 70, Operand.tmp 71], argTypes := #[26, 29] }, type := 26, pos := "l09_ledger.go:224", after := #[{ on := 0, ground := Ground.data }, { on := 1, ground := Ground.data }], guard := none }) rfl (fun K hK => ?_) AllReadyH.nil
      go_simp
      have hLi0 : Lis la1 (clL G) kd := by
        obtain ⟨_, _, e', hm⟩ := own_made (z := N.zero) N.len hO0
        cases e'
        exact hm.rws
      go_at_call 32
      refine (HWI.out ⟨s1, x1, (cc : Nat), clL G⟩ la1 lc1 _ hB0 HSmD.out HND.out hLi0 (by omega)).mono ?_
      rintro e q1 ⟨v, rfl, hds, hq1⟩
      have hB1 := hB0.trans (hq1.mono hB0.size)
      have hR1 := hR0.below hq1
      have hD1 := hD0.below hq1
      have hO1 := own_below hO0 hq1
      have hlt1 := hR0.1.1
      obtain ⟨vo, vc, rfl, -⟩ := hds.dcs
      obtain ⟨nd, hnd⟩ : ∃ z, z = (ds ++ [(⟨s1, x1, (cc : Nat), clL G⟩ : D)]).length := ⟨_, rfl⟩
      rw [← hnd] at hds ⊢
      have HNd := hid_intro hnd
      clear hnd
      try go_wp2_with fail
      have hk1 := HSD.out _ hD1
      refine hK.out _ _ hk1 (fun _ => ?_)
      clear hK K
      try simp only [Act.put, List.setIfInBounds_toArray, List.set_cons_zero, List.set_cons_succ]
      refine wpAnyH_ready (rs := [4]) (by kernel_rfl) (by simp) ?_
      refine AllReadyH.cons (o := { dst := some 74, op := Op.call { callee := Callee.value (Operand.func 33), args := #[Operand.tmp 73], argTypes := #[29] }, type := 29, pos := "l09_ledger.go:224", after := #[{ on := 3, ground := Ground.data }, { on := 2, ground := Ground.chain }], guard := none }) rfl (fun K hK => ?_) AllReadyH.nil
      go_simp
      have hLi1 : Lis la1 (clL G) q1 := by
        obtain ⟨_, _, e', hm⟩ := own_made (z := N.zero) N.len hO1
        cases e'
        exact hm.rws
      go_at_call 33
      refine (icopy ⟨s1, x1, (cc : Nat), clL G⟩ la1 lc1 _ hga HLG.out HSG.out hLi1).mono ?_
      rintro e q2 ⟨v, rfl, hcp, hq2⟩
      have hcp : q2.ownsRow q1.heap.size 53 2 v (clL G).length (cellsAll N.cells (clL G)) := by have := hcp; rw [show (⟨s1, x1, (cc : Nat), clL G⟩ : D).ls.filter nz = clL G from clL_nz G] at this; exact this
      have hB2 := hB1.trans (hq2.mono hB1.size)
      have hR2 := hR1.below hq2
      have hD2 := hD1.below hq2
      have hds2 := hds.below hq2
      have hlt2 := hR1.1.1
      obtain ⟨co, cc2, rfl, -⟩ := own_made (z := N.zero) N.len hcp
      try go_wp2_with fail
      have hk2 := HSD.out _ hD2
      refine hK.out _ _ hk2 (fun _ => ?_)
      clear hK K
      try simp only [Act.put, List.setIfInBounds_toArray, List.set_cons_zero, List.set_cons_succ]
      refine wpAnyH_take (i := 5) (oi := { dst := some 75, op := Op.build 31 #[(0, Operand.tmp 72), (1, Operand.tmp 74)], type := 31, pos := "l09_ledger.go:224", after := #[{ on := 2, ground := Ground.data }, { on := 4, ground := Ground.data }], guard := none }) (v := ?_) rfl (by kernel_rfl) (by kernel_rfl) (by kernel_rfl) (fun _ _ _ h => h) (Or.inl ⟨by rfl, ?_⟩) (by assumption) ?_
      rotate_left
      · (intro w hSw; (try dsimp only at hSw); go_simp) <;> with_reducible rfl
      try simp only [Act.put, List.setIfInBounds_toArray, List.set_cons_zero, List.set_cons_succ]
      refine wpAnyH_ready (rs := [6]) (by kernel_rfl) (by simp) ?_
      refine AllReadyH.cons (o := { dst := none, op := Op.store 31 (Operand.tmp 8) (Operand.tmp 75), type := 0, pos := "l09_ledger.go:224", after := #[{ on := 5, ground := Ground.data }, { on := 4, ground := Ground.chain }, { on := 0, ground := Ground.phase }, { on := 1, ground := Ground.phase }, { on := 2, ground := Ground.phase }, { on := 3, ground := Ground.phase }, { on := 4, ground := Ground.phase }, { on := 5, ground := Ground.phase }], guard := none }) rfl (fun K hK => ?_) AllReadyH.nil
      have hRx := hR2
      obtain ⟨⟨rl, rk⟩, rf⟩ := hRx
      have p0 : q2.cell? ⟨w.heap.size, 0, none⟩ = some (.slice none 0 0) := rk 0 (by simp)
      have f0 : q2.frozen? ⟨w.heap.size, 0, none⟩ = false := rf 0 (by simp)
      have p1 : q2.cell? ⟨w.heap.size, 1, none⟩ = some (.string ⟨#[]⟩) := rk 1 (by simp)
      have f1 : q2.frozen? ⟨w.heap.size, 1, none⟩ = false := rf 1 (by simp)
      have p2 : q2.cell? ⟨w.heap.size, 2, none⟩ = some (.int .i64 0) := rk 2 (by simp)
      have f2 : q2.frozen? ⟨w.heap.size, 2, none⟩ = false := rf 2 (by simp)
      have p3 : q2.cell? ⟨w.heap.size, 3, none⟩ = some (.int .i64 0) := rk 3 (by simp)
      have f3 : q2.frozen? ⟨w.heap.size, 3, none⟩ = false := rf 3 (by simp)
      have p4 : q2.cell? ⟨w.heap.size, 4, none⟩ = some (.slice none 0 0) := rk 4 (by simp)
      have f4 : q2.frozen? ⟨w.heap.size, 4, none⟩ = false := rf 4 (by simp)
      have p5 : q2.cell? ⟨w.heap.size, 5, none⟩ = some (.int .i64 0) := rk 5 (by simp)
      have f5 : q2.frozen? ⟨w.heap.size, 5, none⟩ = false := rf 5 (by simp)
      clear rk rf
      go_simp
      try go_wp2_with fail
      have hgr := StR.stL_grown w.heap.size [.slice vo nd vc, .string s1, .int .i64 x1, .int .i64 (cc : Nat), .slice co (clL G).length cc2, .int .i64 0] 0 q2
      have hBF := hB2.grown hgr hB2.size (fun k e => by simp only [Option.some.injEq] at e; omega)
      have hdsF := hds2.far hgr hlt1
      have hcpF := OwG.own_keepG hcp hgr hlt2
      have hDF := OwG.blkW_grown hD2 hgr (by simp; exact HDW.out)
      have hRF := OwG.stL_blkW hR2 (show ([.slice none 0 0, .string ⟨#[]⟩, .int .i64 0, .int .i64 0, .slice none 0 0, .int .i64 0] : List Value).length = [.slice vo nd vc, .string s1, .int .i64 x1, .int .i64 (cc : Nat), .slice co (clL G).length cc2, .int .i64 0].length from rfl)
      simp only [StR.stL, Nat.zero_add, Nat.reduceAdd] at hBF hdsF hcpF hDF hRF hgr
      have hk3 := HSD.out _ hDF
      refine hK.out _ _ hk3 (fun _ => ?_)
      clear hK K
      try simp only [Act.put, List.setIfInBounds_toArray, List.set_cons_zero, List.set_cons_succ]
      refine wpAnyH_done (by kernel_rfl) ?_ _
      have HNW : Hid (newD ds s1 x1 bl = (⟨s1, x1, (cc : Nat), clL G⟩ : D)) := hid_intro (by unfold newD; rw [hcc, hG0])
      have HLo : Hid (LoO w.heap.size (.agg #[.slice vo nd vc, .string s1, .int .i64 x1, .int .i64 (cc : Nat), .slice co (clL G).length cc2, .int .i64 0]) (ds ++ [(⟨s1, x1, (cc : Nat), clL G⟩ : D)]) (⟨s1, x1, (cc : Nat), clL G⟩ : D) 0 ((((((q2.setCell ⟨w.heap.size, 0, none⟩ (.slice vo nd vc)).setCell ⟨w.heap.size, 1, none⟩ (.string s1)).setCell ⟨w.heap.size, 2, none⟩ (.int .i64 x1)).setCell ⟨w.heap.size, 3, none⟩ (.int .i64 (cc : Nat))).setCell ⟨w.heap.size, 4, none⟩ (.slice co (clL G).length cc2)).setCell ⟨w.heap.size, 5, none⟩ (.int .i64 0))) := hid_intro (by
        obtain ⟨xs, a1, a2, a3, a4⟩ := hds
        have hw : w.heap.size ≤ kd.heap.size := hB0.size
        exact ⟨_, xs, co, cc2, rfl, a1, OwG.own_low (OwG.own_keepG (own_below a2 hq2) hgr hlt1) hw, fun y hy => OwG.own_low (OwG.own_keepG (own_below (a3 y hy) hq2) hgr hlt1) hw, a4, OwG.own_low hcpF hB1.size, fun y hy b h1 h2 => by
          have p1 := ((a3 y hy).lt b h1).2
          have p2 := (hcp.lt b h2).1
          omega⟩)
      have HBF := hid_intro hBF
      obtain ⟨⟨zl, zk⟩, -⟩ := hRF
      clear hgr hds hds2 hdsF hcp hcpF hDF hBF hO0 hO1 hD0 hD1 hD2 hR0 hR1 hR2 hq1 hq2 hLi0 hLi1
      generalize ((((((q2.setCell ⟨w.heap.size, 0, none⟩ (.slice vo nd vc)).setCell ⟨w.heap.size, 1, none⟩ (.string s1)).setCell ⟨w.heap.size, 2, none⟩ (.int .i64 x1)).setCell ⟨w.heap.size, 3, none⟩ (.int .i64 (cc : Nat))).setCell ⟨w.heap.size, 4, none⟩ (.slice co (clL G).length cc2)).setCell ⟨w.heap.size, 5, none⟩ (.int .i64 0)) = WF at *
      have z0 : WF.cell? ⟨w.heap.size, 0, none⟩ = some (.slice vo nd vc) := zk 0 (by simp)
      have z1 : WF.cell? ⟨w.heap.size, 1, none⟩ = some (.string s1) := zk 1 (by simp)
      have z2 : WF.cell? ⟨w.heap.size, 2, none⟩ = some (.int .i64 x1) := zk 2 (by simp)
      have z3 : WF.cell? ⟨w.heap.size, 3, none⟩ = some (.int .i64 (cc : Nat)) := zk 3 (by simp)
      have z4 : WF.cell? ⟨w.heap.size, 4, none⟩ = some (.slice co (clL G).length cc2) := zk 4 (by simp)
      have z5 : WF.cell? ⟨w.heap.size, 5, none⟩ = some (.int .i64 0) := zk 5 (by simp)
      clear zk
      go_wp2_with fail
      refine bodyPost_ret (v := .agg #[.slice vo nd vc, .string s1, .int .i64 x1, .int .i64 (cc : Nat), .slice co (clL G).length cc2, .int .i64 0]) (by simp [results, Tryz.results9, go_sem, z0, z1, z2, z3, z4, z5]) rfl ⟨_, rfl, by rw [HE.out.1, HE.out.2.1, HE.out.2.2, HNW.out]; exact HLo.out, HBF.out⟩
  · go_simp
    try go_wp2_with fail
    have hB1 := hB0.alloc hB0.size (Obj.cells #[.string ⟨#[]⟩, .int .i64 0, .int .i64 0, .slice none 0 0] 29)
    have hD1 := BlkW.new kd [.string ⟨#[]⟩, .int .i64 0, .int .i64 0, .slice none 0 0] 29
    have hDL : WB.heap.size ≤ kd.heap.size := hB0.size
    have hk1 := HSI.out _ hB1
    refine hK.out _ _ hk1 (fun _ => ?_)
    clear hK K
    try simp only [Act.put, List.setIfInBounds_toArray, List.set_cons_zero, List.set_cons_succ]
    obtain ⟨dB, hdB⟩ : ∃ z, z = kd.heap.size := ⟨_, rfl⟩
    obtain ⟨k1, hk1e⟩ : ∃ z, z = kd.alloc (Obj.cells #[.string ⟨#[]⟩, .int .i64 0, .int .i64 0, .slice none 0 0] 29) := ⟨_, rfl⟩
    rw [← hdB] at hD1 hDL ⊢
    rw [← hk1e] at hB1 hD1 hk1 ⊢
    try rw [← hk1e] at *
    clear hdB hk1e
    refine wpAnyH_ready (rs := [6]) (by kernel_rfl) (by simp) ?_
    refine AllReadyH.cons (o := { dst := some 61, op := Op.call { callee := Callee.value (Operand.func 30), args := #[Operand.tmp 55, Operand.tmp 56, Operand.tmp 59, Operand.tmp 60], argTypes := #[26, 61, 67, 27] }, type := 62, pos := "l09_ledger.go:220", after := #[{ on := 0, ground := Ground.data }, { on := 1, ground := Ground.data }, { on := 4, ground := Ground.data }, { on := 5, ground := Ground.data }], guard := none }) rfl (fun K hK => ?_) AllReadyH.nil
    go_simp
    go_at_call 30
    refine (HNX5.out _ hB1).mono ?_
    rintro e q2 hnx
    obtain ⟨s1, x1, y1, la1, n1, lc1, ev, rfl, hns, hq2⟩ := hnx.form
    clear hnx
    try go_wp2_with fail
    have hB2 := hB1.trans (hq2.mono hB1.size)
    have hx : dB < k1.heap.size ∨ q2.heap.size ≤ dB := .inl hD1.1.1
    have hD2 := hD1.below hq2
    have hk2 := HSI.out _ hB2
    refine hK.out _ _ hk2 (fun _ => ?_)
    clear hK K
    try simp only [Act.put, List.setIfInBounds_toArray, List.set_cons_zero, List.set_cons_succ]
    refine wpAnyH_take (i := 7) (oi := { dst := some 54, op := Op.move (Operand.tmp 61), type := 62, pos := "l09_ledger.go:220", after := #[{ on := 6, ground := Ground.data }], guard := none }) (v := ?_) rfl (by kernel_rfl) (by kernel_rfl) (by kernel_rfl) (fun _ _ _ h => h) (Or.inl ⟨by rfl, ?_⟩) (by assumption) ?_
    rotate_left
    · (intro w hSw; (try dsimp only at hSw); go_simp) <;> with_reducible rfl
    try simp only [Act.put, List.setIfInBounds_toArray, List.set_cons_zero, List.set_cons_succ]
    refine wpAnyH_take (i := 8) (oi := { dst := some 62, op := Op.extract (Operand.tmp 54) 0, type := 29, pos := "l09_ledger.go:220", after := #[{ on := 7, ground := Ground.data }], guard := none }) (v := ?_) rfl (by kernel_rfl) (by kernel_rfl) (by kernel_rfl) (fun _ _ _ h => h) (Or.inl ⟨by rfl, ?_⟩) (by assumption) ?_
    rotate_left
    · (intro w hSw; (try dsimp only at hSw); go_simp) <;> with_reducible rfl
    try simp only [Act.put, List.setIfInBounds_toArray, List.set_cons_zero, List.set_cons_succ]
    refine wpAnyH_take (i := 9) (oi := { dst := some 63, op := Op.extract (Operand.tmp 54) 1, type := 57, pos := "l09_ledger.go:220", after := #[{ on := 7, ground := Ground.data }, { on := 11, ground := Ground.gcOnly Departure.lateStores }], guard := none }) (v := ?_) rfl (by kernel_rfl) (by kernel_rfl) (by kernel_rfl) (fun _ _ _ h => h) (Or.inl ⟨by rfl, ?_⟩) (by assumption) ?_
    rotate_left
    · (intro w hSw; (try dsimp only at hSw); go_simp) <;> with_reducible rfl
    try simp only [Act.put, List.setIfInBounds_toArray, List.set_cons_zero, List.set_cons_succ]
    refine wpAnyH_ready (rs := [11]) (by kernel_rfl) (by simp) ?_
    refine AllReadyH.cons (o := { dst := none, op := Op.store 29 (Operand.tmp 12) (Operand.tmp 62), type := 0, pos := "l09_ledger.go:220", after := #[{ on := 10, ground := Ground.data }, { on := 8, ground := Ground.data }, { on := 6, ground := Ground.chain }, { on := 0, ground := Ground.phase }, { on := 1, ground := Ground.phase }, { on := 2, ground := Ground.phase }, { on := 3, ground := Ground.phase }, { on := 4, ground := Ground.phase }, { on := 5, ground := Ground.phase }, { on := 6, ground := Ground.phase }, { on := 7, ground := Ground.phase }, { on := 8, ground := Ground.phase }, { on := 9, ground := Ground.textOnly Departure.lateStores }, { on := 10, ground := Ground.phase }], guard := none }) rfl (fun K hK => ?_) AllReadyH.nil
    have hDx := hD2
    obtain ⟨⟨dl, dk⟩, df⟩ := hDx
    have d0 : q2.cell? ⟨dB, 0, none⟩ = some (.string ⟨#[]⟩) := dk 0 (by simp)
    have g0 : q2.frozen? ⟨dB, 0, none⟩ = false := df 0 (by simp)
    have d1 : q2.cell? ⟨dB, 1, none⟩ = some (.int .i64 0) := dk 1 (by simp)
    have g1 : q2.frozen? ⟨dB, 1, none⟩ = false := df 1 (by simp)
    have d2 : q2.cell? ⟨dB, 2, none⟩ = some (.int .i64 0) := dk 2 (by simp)
    have g2 : q2.frozen? ⟨dB, 2, none⟩ = false := df 2 (by simp)
    have d3 : q2.cell? ⟨dB, 3, none⟩ = some (.slice none 0 0) := dk 3 (by simp)
    have g3 : q2.frozen? ⟨dB, 3, none⟩ = false := df 3 (by simp)
    clear dk df
    go_simp
    try go_wp2_with fail
    have hgr := StR.stL_grown dB [.string s1, .int .i64 x1, .int .i64 y1, .slice la1 n1 lc1] 0 q2
    have hB3 := hB2.grown hgr hB2.size (fun k e => by simp only [Option.some.injEq] at e; omega)
    have hDF := OwG.stL_blkW hD2 (show ([.string ⟨#[]⟩, .int .i64 0, .int .i64 0, .slice none 0 0] : List Value).length = [.string s1, .int .i64 x1, .int .i64 y1, .slice la1 n1 lc1].length from rfl)
    have hnsF := hns.grown hgr hx
    simp only [StR.stL, Nat.zero_add, Nat.reduceAdd] at hB3 hDF hnsF
    have hk3 := HSI.out _ hB3
    refine hK.out _ _ hk3 (fun _ => ?_)
    clear hK K
    try simp only [Act.put, List.setIfInBounds_toArray, List.set_cons_zero, List.set_cons_succ]
    refine wpAnyH_take (i := 12) (oi := { dst := some 10, op := Op.assign (Operand.tmp 63), type := 57, pos := "l09_ledger.go:220", after := #[{ on := 9, ground := Ground.data }, { on := 11, ground := Ground.chain }, { on := 0, ground := Ground.phase }, { on := 1, ground := Ground.phase }, { on := 2, ground := Ground.phase }, { on := 3, ground := Ground.phase }, { on := 4, ground := Ground.phase }, { on := 5, ground := Ground.phase }, { on := 6, ground := Ground.phase }, { on := 7, ground := Ground.phase }, { on := 8, ground := Ground.phase }, { on := 9, ground := Ground.phase }, { on := 10, ground := Ground.phase }, { on := 11, ground := Ground.phase }], guard := none }) (v := ?_) rfl (by kernel_rfl) (by kernel_rfl) (by kernel_rfl) (fun _ _ _ h => h) (Or.inl ⟨by rfl, ?_⟩) (by assumption) ?_
    rotate_left
    · (intro w hSw; (try dsimp only at hSw); go_simp) <;> with_reducible rfl
    try simp only [Act.put, List.setIfInBounds_toArray, List.set_cons_zero, List.set_cons_succ]
    refine wpAnyH_done (by kernel_rfl) ?_ _
    have HDW : Hid (¬ dB = w.heap.size) := hid_intro (by have := HR5.out.1.1; omega)
    clear HNX5 HSI hgr hx hDL
    have HB6 := hid_intro (HB5.out.trans (hB3.mono HB5.out.size))
    have HR6 := hid_intro (HR5.out.below hB3)
    have HD6 := hid_intro hDF
    have HN6 := hid_intro hnsF
    clear hDF hnsF
    generalize ((((q2.setCell ⟨dB, 0, none⟩ (.string s1)).setCell ⟨dB, 1, none⟩ (.int .i64 x1)).setCell ⟨dB, 2, none⟩ (.int .i64 y1)).setCell ⟨dB, 3, none⟩ (.slice la1 n1 lc1)) = W6 at *
    have HLy := hid_intro (HLay.out.below HB6.out)
    rcases HN6.out with ⟨cd, rfl, hcs⟩ | ⟨ho, hne, h30, rfl, rfl, rfl, rfl, rfl, how, -⟩
    · have HE : Hid (isD ds a m bl = [] ∧ isX ds a m bl = D.zero ∧ isC ds a m bl = cd ∧ cd ≠ 0) := hid_intro (by
        obtain ⟨g1, g2, g3, g4⟩ := HG2.out
        rcases hcs with ⟨h1, rfl⟩ | ⟨h1, h2, h3, rfl⟩ | ⟨h1, h2, h3, rfl⟩
        · have := g1 h1; exact ⟨this.1, this.2.1, this.2.2, by decide⟩
        · have := g2 h1 h2 h3; exact ⟨this.1, this.2.1, this.2.2, by decide⟩
        · have := g3 h1 h2 (by rw [← HLN.out]; exact h3); exact ⟨this.1, this.2.1, this.2.2, by decide⟩)
      have hcd := HE.out.2.2.2
      clear hcs
      go_wp2_with fail
      refine (AsD.code_hit cd _ HLy.out).mono ?_
      rintro e w7 ⟨rfl, hb7⟩
      have HB7 := hid_intro (HB6.out.trans (hb7.mono HB6.out.size))
      have HR7 := hid_intro (HR6.out.below hb7)
      clear hb7
      obtain ⟨⟨rl, rk⟩, rf⟩ := HR7.out
      have p0 : w7.cell? ⟨w.heap.size, 0, none⟩ = some (.slice none 0 0) := rk 0 (by simp)
      have f0 : w7.frozen? ⟨w.heap.size, 0, none⟩ = false := rf 0 (by simp)
      have p1 : w7.cell? ⟨w.heap.size, 1, none⟩ = some (.string ⟨#[]⟩) := rk 1 (by simp)
      have f1 : w7.frozen? ⟨w.heap.size, 1, none⟩ = false := rf 1 (by simp)
      have p2 : w7.cell? ⟨w.heap.size, 2, none⟩ = some (.int .i64 0) := rk 2 (by simp)
      have f2 : w7.frozen? ⟨w.heap.size, 2, none⟩ = false := rf 2 (by simp)
      have p3 : w7.cell? ⟨w.heap.size, 3, none⟩ = some (.int .i64 0) := rk 3 (by simp)
      have f3 : w7.frozen? ⟨w.heap.size, 3, none⟩ = false := rf 3 (by simp)
      have p4 : w7.cell? ⟨w.heap.size, 4, none⟩ = some (.slice none 0 0) := rk 4 (by simp)
      have f4 : w7.frozen? ⟨w.heap.size, 4, none⟩ = false := rf 4 (by simp)
      have p5 : w7.cell? ⟨w.heap.size, 5, none⟩ = some (.int .i64 0) := rk 5 (by simp)
      have f5 : w7.frozen? ⟨w.heap.size, 5, none⟩ = false := rf 5 (by simp)
      have hg := StR.stL_grown w.heap.size [.slice none 0 0, .string ⟨#[]⟩, .int .i64 0, .int .i64 0, .slice none 0 0, .int .i64 cd] 0 w7
      have HBF := hid_intro (HB7.out.grown hg HB7.out.size (fun k e => by simp only [Option.some.injEq] at e; omega))
      simp only [StR.stL, Nat.zero_add, Nat.reduceAdd] at HBF
      clear hg rk rf
      go_wp2_with fail
      refine bodyPost_ret (v := .agg #[.slice none 0 0, .string ⟨#[]⟩, .int .i64 0, .int .i64 0, .slice none 0 0, .int .i64 cd]) (by simp [results, Tryz.results9, go_sem, p0, p1, p2, p3, p4, p5]) rfl ⟨_, rfl, by rw [HE.out.1, HE.out.2.1, HE.out.2.2.1]; exact loO_of (dso_nil _ _), HBF.out⟩
    · have HE := hid_intro (HG2.out.2.2.2 ho hne (by rw [← HLN.out]; exact h30))
      have HOW := hid_intro how
      clear ho hne how
      go_wp2_with fail
      refine (AsD.code_nil _).mono ?_
      rintro e w7 ⟨rfl, hb7⟩
      have HB7 := hid_intro (HB6.out.trans (hb7.mono HB6.out.size))
      have HR7 := hid_intro (HR6.out.below hb7)
      have HD7 := hid_intro (HD6.out.below hb7)
      have HO7 := hid_intro (own_below HOW.out hb7)
      clear hb7 HB6 HR6 HD6 HOW HN6
      go_wp2_with fail
      have hb0 := (Below.refl w7.heap.size w7).drew
      have hB0 := HB7.out.trans (hb0.mono HB7.out.size)
      have hR0 := HR7.out.below hb0
      have hD0 := HD7.out.below hb0
      have hO0 := own_below HO7.out hb0
      have HSD : Hid (∀ W, BlkW dB [.string s1, .int .i64 x1, .int .i64 (cc : Nat), .slice la1 (clL G).length lc1] W → (fun W => dB < W.heap.size ∧ W.cell? ⟨dB, 0, none⟩ = some (.string s1) ∧ W.cell? ⟨dB, 1, none⟩ = some (.int .i64 x1) ∧ W.cell? ⟨dB, 2, none⟩ = some (.int .i64 (cc : Nat)) ∧ W.cell? ⟨dB, 3, none⟩ = some (.slice la1 (clL G).length lc1)) W) := hid_intro (fun W h => ⟨h.1.1, h.1.2 0 (by simp), h.1.2 1 (by simp), h.1.2 2 (by simp), h.1.2 3 (by simp)⟩)
      have HSmD : Hid ((⟨s1, x1, (cc : Nat), clL G⟩ : D).Sm) := hid_intro ⟨hga, HLG.out, HSG.out⟩
      have HND : Hid (∀ x ∈ ds ++ [(⟨s1, x1, (cc : Nat), clL G⟩ : D)], x.ls.filter nz = x.ls) := hid_intro (fun x hx => by
        rcases List.mem_append.1 hx with h | h
        · exact HNZ.out x h
        · rw [List.mem_singleton] at h; subst h; exact clL_nz G)
      clear hb0 HB7 HR7 HD7 HO7
      refine wp_region_held_drew (S := (fun W => dB < W.heap.size ∧ W.cell? ⟨dB, 0, none⟩ = some (.string s1) ∧ W.cell? ⟨dB, 1, none⟩ = some (.int .i64 x1) ∧ W.cell? ⟨dB, 2, none⟩ = some (.int .i64 (cc : Nat)) ∧ W.cell? ⟨dB, 3, none⟩ = some (.slice la1 (clL G).length lc1))) (by kernel_rfl) (HSD.out _ hD0) (fun hHeld => ?_)
      generalize w7.drew = kd at *
      refine wpAnyH_take (i := 0) (oi := { dst := some 70, op := Op.move (Operand.tmp 0), type := 26, pos := "l09_ledger.go:224", after := #[], guard := none }) (v := ?_) rfl (by kernel_rfl) (by kernel_rfl) (by kernel_rfl) (fun _ _ _ h => h) (Or.inl ⟨by rfl, ?_⟩) (by assumption) ?_
      rotate_left
      · (intro w hSw; (try dsimp only at hSw); go_simp) <;> with_reducible rfl
      try simp only [Act.put, List.setIfInBounds_toArray, List.set_cons_zero, List.set_cons_succ]
      refine wpAnyH_take (i := 1) (oi := { dst := some 71, op := Op.load 29 (Operand.tmp 12), type := 29, pos := "l09_ledger.go:224", after := #[], guard := none }) (v := ?_) rfl (by kernel_rfl) (by kernel_rfl) (by kernel_rfl) (fun _ _ _ h => h) (Or.inl ⟨by rfl, ?_⟩) (by assumption) ?_
      rotate_left
      · (intro w hSw; (try dsimp only at hSw); go_simp) <;> with_reducible rfl
      try simp only [Act.put, List.setIfInBounds_toArray, List.set_cons_zero, List.set_cons_succ]
      refine wpAnyH_take (i := 3) (oi := { dst := some 73, op := Op.load 29 (Operand.tmp 12), type := 29, pos := "l09_ledger.go:224", after := #[], guard := none }) (v := ?_) rfl (by kernel_rfl) (by kernel_rfl) (by kernel_rfl) (fun _ _ _ h => h) (Or.inl ⟨by rfl, ?_⟩) (by assumption) ?_
      rotate_left
      · (intro w hSw; (try dsimp only at hSw); go_simp) <;> with_reducible rfl
      try simp only [Act.put, List.setIfInBounds_toArray, List.set_cons_zero, List.set_cons_succ]
      refine wpAnyH_ready (rs := [2]) (by kernel_rfl) (by simp) ?_
      refine AllReadyH.cons (o := { dst := some 72, op := Op.call { callee := Callee.value (Operand.func 32), args := #[Operand.tmp 70, Operand.tmp 71], argTypes := #[26, 29] }, type := 26, pos := "l09_ledger.go:224", after := #[{ on := 0, ground := Ground.data }, { on := 1, ground := Ground.data }], guard := none }) rfl (fun K hK => ?_) AllReadyH.nil
      go_simp
      have hLi0 : Lis la1 (clL G) kd := by
        obtain ⟨_, _, e', hm⟩ := own_made (z := N.zero) N.len hO0
        cases e'
        exact hm.rws
      go_at_call 32
      refine (HWI.out ⟨s1, x1, (cc : Nat), clL G⟩ la1 lc1 _ hB0 HSmD.out HND.out hLi0 (by omega)).mono ?_
      rintro e q1 ⟨v, rfl, hds, hq1⟩
      have hB1 := hB0.trans (hq1.mono hB0.size)
      have hR1 := hR0.below hq1
      have hD1 := hD0.below hq1
      have hO1 := own_below hO0 hq1
      have hlt1 := hR0.1.1
      obtain ⟨vo, vc, rfl, -⟩ := hds.dcs
      obtain ⟨nd, hnd⟩ : ∃ z, z = (ds ++ [(⟨s1, x1, (cc : Nat), clL G⟩ : D)]).length := ⟨_, rfl⟩
      rw [← hnd] at hds ⊢
      have HNd := hid_intro hnd
      clear hnd
      try go_wp2_with fail
      have hk1 := HSD.out _ hD1
      refine hK.out _ _ hk1 (fun _ => ?_)
      clear hK K
      try simp only [Act.put, List.setIfInBounds_toArray, List.set_cons_zero, List.set_cons_succ]
      refine wpAnyH_ready (rs := [4]) (by kernel_rfl) (by simp) ?_
      refine AllReadyH.cons (o := { dst := some 74, op := Op.call { callee := Callee.value (Operand.func 33), args := #[Operand.tmp 73], argTypes := #[29] }, type := 29, pos := "l09_ledger.go:224", after := #[{ on := 3, ground := Ground.data }, { on := 2, ground := Ground.chain }], guard := none }) rfl (fun K hK => ?_) AllReadyH.nil
      go_simp
      have hLi1 : Lis la1 (clL G) q1 := by
        obtain ⟨_, _, e', hm⟩ := own_made (z := N.zero) N.len hO1
        cases e'
        exact hm.rws
      go_at_call 33
      refine (icopy ⟨s1, x1, (cc : Nat), clL G⟩ la1 lc1 _ hga HLG.out HSG.out hLi1).mono ?_
      rintro e q2 ⟨v, rfl, hcp, hq2⟩
      have hcp : q2.ownsRow q1.heap.size 53 2 v (clL G).length (cellsAll N.cells (clL G)) := by have := hcp; rw [show (⟨s1, x1, (cc : Nat), clL G⟩ : D).ls.filter nz = clL G from clL_nz G] at this; exact this
      have hB2 := hB1.trans (hq2.mono hB1.size)
      have hR2 := hR1.below hq2
      have hD2 := hD1.below hq2
      have hds2 := hds.below hq2
      have hlt2 := hR1.1.1
      obtain ⟨co, cc2, rfl, -⟩ := own_made (z := N.zero) N.len hcp
      try go_wp2_with fail
      have hk2 := HSD.out _ hD2
      refine hK.out _ _ hk2 (fun _ => ?_)
      clear hK K
      try simp only [Act.put, List.setIfInBounds_toArray, List.set_cons_zero, List.set_cons_succ]
      refine wpAnyH_take (i := 5) (oi := { dst := some 75, op := Op.build 31 #[(0, Operand.tmp 72), (1, Operand.tmp 74)], type := 31, pos := "l09_ledger.go:224", after := #[{ on := 2, ground := Ground.data }, { on := 4, ground := Ground.data }], guard := none }) (v := ?_) rfl (by kernel_rfl) (by kernel_rfl) (by kernel_rfl) (fun _ _ _ h => h) (Or.inl ⟨by rfl, ?_⟩) (by assumption) ?_
      rotate_left
      · (intro w hSw; (try dsimp only at hSw); go_simp) <;> with_reducible rfl
      try simp only [Act.put, List.setIfInBounds_toArray, List.set_cons_zero, List.set_cons_succ]
      refine wpAnyH_ready (rs := [6]) (by kernel_rfl) (by simp) ?_
      refine AllReadyH.cons (o := { dst := none, op := Op.store 31 (Operand.tmp 8) (Operand.tmp 75), type := 0, pos := "l09_ledger.go:224", after := #[{ on := 5, ground := Ground.data }, { on := 4, ground := Ground.chain }, { on := 0, ground := Ground.phase }, { on := 1, ground := Ground.phase }, { on := 2, ground := Ground.phase }, { on := 3, ground := Ground.phase }, { on := 4, ground := Ground.phase }, { on := 5, ground := Ground.phase }], guard := none }) rfl (fun K hK => ?_) AllReadyH.nil
      have hRx := hR2
      obtain ⟨⟨rl, rk⟩, rf⟩ := hRx
      have p0 : q2.cell? ⟨w.heap.size, 0, none⟩ = some (.slice none 0 0) := rk 0 (by simp)
      have f0 : q2.frozen? ⟨w.heap.size, 0, none⟩ = false := rf 0 (by simp)
      have p1 : q2.cell? ⟨w.heap.size, 1, none⟩ = some (.string ⟨#[]⟩) := rk 1 (by simp)
      have f1 : q2.frozen? ⟨w.heap.size, 1, none⟩ = false := rf 1 (by simp)
      have p2 : q2.cell? ⟨w.heap.size, 2, none⟩ = some (.int .i64 0) := rk 2 (by simp)
      have f2 : q2.frozen? ⟨w.heap.size, 2, none⟩ = false := rf 2 (by simp)
      have p3 : q2.cell? ⟨w.heap.size, 3, none⟩ = some (.int .i64 0) := rk 3 (by simp)
      have f3 : q2.frozen? ⟨w.heap.size, 3, none⟩ = false := rf 3 (by simp)
      have p4 : q2.cell? ⟨w.heap.size, 4, none⟩ = some (.slice none 0 0) := rk 4 (by simp)
      have f4 : q2.frozen? ⟨w.heap.size, 4, none⟩ = false := rf 4 (by simp)
      have p5 : q2.cell? ⟨w.heap.size, 5, none⟩ = some (.int .i64 0) := rk 5 (by simp)
      have f5 : q2.frozen? ⟨w.heap.size, 5, none⟩ = false := rf 5 (by simp)
      clear rk rf
      go_simp
      try go_wp2_with fail
      have hgr := StR.stL_grown w.heap.size [.slice vo nd vc, .string s1, .int .i64 x1, .int .i64 (cc : Nat), .slice co (clL G).length cc2, .int .i64 0] 0 q2
      have hBF := hB2.grown hgr hB2.size (fun k e => by simp only [Option.some.injEq] at e; omega)
      have hdsF := hds2.far hgr hlt1
      have hcpF := OwG.own_keepG hcp hgr hlt2
      have hDF := OwG.blkW_grown hD2 hgr (by simp; exact HDW.out)
      have hRF := OwG.stL_blkW hR2 (show ([.slice none 0 0, .string ⟨#[]⟩, .int .i64 0, .int .i64 0, .slice none 0 0, .int .i64 0] : List Value).length = [.slice vo nd vc, .string s1, .int .i64 x1, .int .i64 (cc : Nat), .slice co (clL G).length cc2, .int .i64 0].length from rfl)
      simp only [StR.stL, Nat.zero_add, Nat.reduceAdd] at hBF hdsF hcpF hDF hRF hgr
      have hk3 := HSD.out _ hDF
      refine hK.out _ _ hk3 (fun _ => ?_)
      clear hK K
      try simp only [Act.put, List.setIfInBounds_toArray, List.set_cons_zero, List.set_cons_succ]
      refine wpAnyH_done (by kernel_rfl) ?_ _
      have HNW : Hid (newD ds s1 x1 bl = (⟨s1, x1, (cc : Nat), clL G⟩ : D)) := hid_intro (by unfold newD; rw [hcc, hG0])
      have HLo : Hid (LoO w.heap.size (.agg #[.slice vo nd vc, .string s1, .int .i64 x1, .int .i64 (cc : Nat), .slice co (clL G).length cc2, .int .i64 0]) (ds ++ [(⟨s1, x1, (cc : Nat), clL G⟩ : D)]) (⟨s1, x1, (cc : Nat), clL G⟩ : D) 0 ((((((q2.setCell ⟨w.heap.size, 0, none⟩ (.slice vo nd vc)).setCell ⟨w.heap.size, 1, none⟩ (.string s1)).setCell ⟨w.heap.size, 2, none⟩ (.int .i64 x1)).setCell ⟨w.heap.size, 3, none⟩ (.int .i64 (cc : Nat))).setCell ⟨w.heap.size, 4, none⟩ (.slice co (clL G).length cc2)).setCell ⟨w.heap.size, 5, none⟩ (.int .i64 0))) := hid_intro (by
        obtain ⟨xs, a1, a2, a3, a4⟩ := hds
        have hw : w.heap.size ≤ kd.heap.size := hB0.size
        exact ⟨_, xs, co, cc2, rfl, a1, OwG.own_low (OwG.own_keepG (own_below a2 hq2) hgr hlt1) hw, fun y hy => OwG.own_low (OwG.own_keepG (own_below (a3 y hy) hq2) hgr hlt1) hw, a4, OwG.own_low hcpF hB1.size, fun y hy b h1 h2 => by
          have p1 := ((a3 y hy).lt b h1).2
          have p2 := (hcp.lt b h2).1
          omega⟩)
      have HBF := hid_intro hBF
      obtain ⟨⟨zl, zk⟩, -⟩ := hRF
      clear hgr hds hds2 hdsF hcp hcpF hDF hBF hO0 hO1 hD0 hD1 hD2 hR0 hR1 hR2 hq1 hq2 hLi0 hLi1
      generalize ((((((q2.setCell ⟨w.heap.size, 0, none⟩ (.slice vo nd vc)).setCell ⟨w.heap.size, 1, none⟩ (.string s1)).setCell ⟨w.heap.size, 2, none⟩ (.int .i64 x1)).setCell ⟨w.heap.size, 3, none⟩ (.int .i64 (cc : Nat))).setCell ⟨w.heap.size, 4, none⟩ (.slice co (clL G).length cc2)).setCell ⟨w.heap.size, 5, none⟩ (.int .i64 0)) = WF at *
      have z0 : WF.cell? ⟨w.heap.size, 0, none⟩ = some (.slice vo nd vc) := zk 0 (by simp)
      have z1 : WF.cell? ⟨w.heap.size, 1, none⟩ = some (.string s1) := zk 1 (by simp)
      have z2 : WF.cell? ⟨w.heap.size, 2, none⟩ = some (.int .i64 x1) := zk 2 (by simp)
      have z3 : WF.cell? ⟨w.heap.size, 3, none⟩ = some (.int .i64 (cc : Nat)) := zk 3 (by simp)
      have z4 : WF.cell? ⟨w.heap.size, 4, none⟩ = some (.slice co (clL G).length cc2) := zk 4 (by simp)
      have z5 : WF.cell? ⟨w.heap.size, 5, none⟩ = some (.int .i64 0) := zk 5 (by simp)
      clear zk
      go_wp2_with fail
      refine bodyPost_ret (v := .agg #[.slice vo nd vc, .string s1, .int .i64 x1, .int .i64 (cc : Nat), .slice co (clL G).length cc2, .int .i64 0]) (by simp [results, Tryz.results9, go_sem, z0, z1, z2, z3, z4, z5]) rfl ⟨_, rfl, by rw [HE.out.1, HE.out.2.1, HE.out.2.2, HNW.out]; exact HLo.out, HBF.out⟩
end LedR
end Go.Proofs.YtakeiankhfdjdaaGreatDoor
namespace Go.Proofs.YtakeiankhfdjdaaGreatDoor
open Go.ChangeShapes Go.WideShapes Go.ChangeAt Go.RowKit
set_option linter.unusedVariables false
namespace LedR
open LinR RowG DocR ChG
open EvtR (Pt cell_put cell_far)
open CatR (Blk Blk.new)
theorem markLnO (base K : Nat) (x : DA) (w : World) (hK0 : 1 ≤ K) (hK : K ≤ 5300001) (hx : x.d.ls.length ≤ 1048576) (h : LnO base x w) :
    Calls Tryz.prog 14 #[x.v, .int .i64 K] w fun e w' => e = .returned (.int .i64 (K + 2 * x.d.ls.length : Nat)) ∧ (∃ S : Nat → Prop, Chg S w w' ∧ (∀ b, S b → base ≤ b ∧ x.v.ownBlock = some b) ∧
      (∀ (S' : Nat → Prop) w2, Chg S' w' w2 → (∀ b, S' b → ¬ S b) → Calls Tryz.prog 60 #[x.v, .int .i64 K] w2 fun e w3 => e = .returned (.int .i64 (K + 2 * x.d.ls.length : Nat)) ∧ Below w2.heap.size w2 w3)) := by
  obtain ⟨ao, cap, e, hm⟩ := RowG.own_made (z := N.zero) N.len h
  unfold DA.v at e
  cases e
  unfold DA.v
  by_cases h0 : x.d.ls.length = 0
  · rw [h0]
    refine (marks0K K x.la x.lc w).mono ?_
    rintro e w' ⟨rfl, hb⟩
    exact ⟨rfl, fun _ => False, Chg.of_below hb, fun b q => q.elim, fun S' w2 _ _ => held0K K x.la x.lc w2⟩
  · rcases hm.own with q | ⟨g, e1, e2, e3⟩
    · exact absurd q h0
    rw [e1]
    refine (marksM K hK0 (by omega) g x.d.ls.length x.lc w hx e3).mono ?_
    rintro e w' ⟨rfl, hg, ha, hM⟩
    refine ⟨rfl, fun b => b = g, (Chg.refl _ _).grown hg rfl, ?_, fun S' w2 hc hS => ?_⟩
    · rintro b rfl
      exact ⟨e2, rfl⟩
    · exact heldM K hK0 (by omega) g x.d.ls.length x.lc w2 hx (hM.block hc.size (hc.block g hM.1 (fun q => hS g q rfl)))
set_option maxHeartbeats 4000000 in
theorem markDoc_in (a : ByteArray) (mo sq K K2 : Int) (v : Value) (P : World → World → Prop) (w : World) (hb : ∀ W W', Below W.heap.size W W' → Below w.heap.size w W → Below w.heap.size w W')
    (hL : ∀ W, Below w.heap.size w W → Calls Tryz.prog 14 #[v, .int .i64 K] W fun e w' => e = .returned (.int .i64 K2) ∧ P W w') (hv : ∃ ao n c, v = .slice ao n c) :
    Calls Tryz.prog 37 #[.agg #[.string a, .int .i64 mo, .int .i64 sq, v], .int .i64 K] w fun e w' => e = .returned (.int .i64 K2) ∧ ∃ W, Below w.heap.size w W ∧ P W w' := by
  obtain ⟨ao, n, c, rfl⟩ := hv
  have HL := hid_intro hL
  have HB : Hid (Below w.heap.size w (w.alloc (.cells #[.string a, .int .i64 mo, .int .i64 sq, .slice ao n c] 29))) := hid_intro ((Below.refl _ _).alloc (Nat.le_refl _) _)
  have HBd := hid_intro HB.out.drew
  clear hL hb
  go_enter Tryz.func37, Tryz.ntmps37
  go_wp2_with fail
  refine (HL.out _ (by first | exact HB.out | exact HBd.out)).mono ?_
  rintro e w1 ⟨rfl, hp⟩
  go_wp2_with fail
  go_ret
  exact ⟨rfl, _, (by first | exact HB.out | exact HBd.out), hp⟩
set_option maxHeartbeats 4000000 in
theorem heldDoc_in (a : ByteArray) (mo sq K : Int) (K2 : Nat) (v : Value) (w : World)
    (hL : ∀ W, Below w.heap.size w W → Calls Tryz.prog 60 #[v, .int .i64 K] W fun e w' => e = .returned (.int .i64 K2) ∧ Below W.heap.size W w') (hv : ∃ ao n c, v = .slice ao n c) :
    Calls Tryz.prog 39 #[.agg #[.string a, .int .i64 mo, .int .i64 sq, v], .int .i64 K] w fun e w' => e = .returned (.int .i64 K2) ∧ Below w.heap.size w w' := by
  obtain ⟨ao, n, c, rfl⟩ := hv
  have HL := hid_intro hL
  have HB : Hid (Below w.heap.size w (w.alloc (.cells #[.string a, .int .i64 mo, .int .i64 sq, .slice ao n c] 29))) := hid_intro ((Below.refl _ _).alloc (Nat.le_refl _) _)
  have h0 : ¬ ((K2 : Nat) : Int) < 0 := by omega
  clear hL
  go_enter Tryz.func39, Tryz.ntmps39
  go_wp2_with fail
  refine (HL.out _ HB.out).mono ?_
  rintro e w1 ⟨rfl, hp⟩
  have HB2 := hid_intro (HB.out.trans (hp.mono HB.out.size))
  clear hp
  go_wp2_with fail
  go_ret
  exact ⟨rfl, HB2.out⟩
set_option maxHeartbeats 4000000 in
theorem markO_in (vd : Value) (a : ByteArray) (mo sq cd : Int) (vl : Value) (K1 K2 : Int) (P Q : World → World → Prop) (w : World) (hvd : ∃ ao n c, vd = .slice ao n c) (hvl : ∃ ao n c, vl = .slice ao n c)
    (hD : ∀ W, Below w.heap.size w W → Calls Tryz.prog 13 #[vd, .int .i64 1] W fun e w' => e = .returned (.int .i64 K1) ∧ P W w') (hP : ∀ W W', P W W' → W.heap.size ≤ W'.heap.size ∧ ∀ b cs, w.heap.size ≤ b → Below w.heap.size w W → Blk b cs W → Blk b cs W')
    (hL : ∀ W0 W, Below w.heap.size w W0 → P W0 W → Calls Tryz.prog 37 #[.agg #[.string a, .int .i64 mo, .int .i64 sq, vl], .int .i64 K1] W fun e w' => e = .returned (.int .i64 K2) ∧ Q W w') :
    Calls Tryz.prog 15 #[.agg #[vd, .string a, .int .i64 mo, .int .i64 sq, vl, .int .i64 cd], .int .i64 1] w fun e w' => e = .returned (.int .i64 K2) ∧ ∃ W0 W1, Below w.heap.size w W0 ∧ P W0 W1 ∧ Q W1 w' := by
  obtain ⟨ao, n, c, rfl⟩ := hvd
  obtain ⟨bo, m, d, rfl⟩ := hvl
  have HD := hid_intro hD
  have HP := hid_intro hP
  have HL := hid_intro hL
  obtain ⟨W0, hW0⟩ : ∃ W0, W0 = w.alloc (.cells #[.slice ao n c, .string a, .int .i64 mo, .int .i64 sq, .slice bo m d, .int .i64 cd] 31) := ⟨_, rfl⟩
  have HB : Hid (Below w.heap.size w W0) := hid_intro (by rw [hW0]; exact (Below.refl _ _).alloc (Nat.le_refl _) _)
  have HX : Hid (Blk w.heap.size [.slice ao n c, .string a, .int .i64 mo, .int .i64 sq, .slice bo m d, .int .i64 cd] W0) := hid_intro (by rw [hW0]; exact Blk.new w [.slice ao n c, .string a, .int .i64 mo, .int .i64 sq, .slice bo m d, .int .i64 cd] 31)
  have HW := hid_intro hW0
  clear hD hP hL hW0
  go_enter Tryz.func15, Tryz.ntmps15
  go_wp2_with fail
  rw [← HW.out]
  clear HW
  refine (HD.out _ HB.out).mono ?_
  rintro e w1 ⟨rfl, hp⟩
  have HPw := hid_intro hp
  obtain ⟨hs, hk⟩ := HP.out _ _ hp
  have HX1 := hid_intro (hk _ _ (Nat.le_refl _) HB.out HX.out)
  have xl := HX1.out.1
  have x1 : w1.cell? ⟨w.heap.size, 1, none⟩ = some (.string a) := HX1.out.2 1 (by simp)
  have x2 : w1.cell? ⟨w.heap.size, 2, none⟩ = some (.int .i64 mo) := HX1.out.2 2 (by simp)
  have x3 : w1.cell? ⟨w.heap.size, 3, none⟩ = some (.int .i64 sq) := HX1.out.2 3 (by simp)
  have x4 : w1.cell? ⟨w.heap.size, 4, none⟩ = some (.slice bo m d) := HX1.out.2 4 (by simp)
  have HLD := hid_intro (HL.out _ _ HB.out hp)
  clear hp hs hk HX HP HL
  go_wp2_with fail
  refine HLD.out.mono ?_
  rintro e w2 ⟨rfl, hq⟩
  have HQ := hid_intro hq
  clear hq x1 x2 x3 x4 xl
  go_wp2_with fail
  go_ret
  exact ⟨rfl, _, _, HB.out, HPw.out, HQ.out⟩
set_option maxHeartbeats 4000000 in
theorem heldO_in (vd : Value) (a : ByteArray) (mo sq cd : Int) (vl : Value) (K1 K2 : Nat) (w : World) (hvd : ∃ ao n c, vd = .slice ao n c) (hvl : ∃ ao n c, vl = .slice ao n c)
    (hD : ∀ W, Below w.heap.size w W → Calls Tryz.prog 38 #[vd, .int .i64 1] W fun e w' => e = .returned (.int .i64 K1) ∧ Below W.heap.size W w')
    (hL : ∀ W, Below w.heap.size w W → Calls Tryz.prog 39 #[.agg #[.string a, .int .i64 mo, .int .i64 sq, vl], .int .i64 K1] W fun e w' => e = .returned (.int .i64 K2) ∧ Below W.heap.size W w') :
    Calls Tryz.prog 16 #[.agg #[vd, .string a, .int .i64 mo, .int .i64 sq, vl, .int .i64 cd], .int .i64 1] w fun e w' => e = .returned (.int .i64 K2) ∧ Below w.heap.size w w' := by
  obtain ⟨ao, n, c, rfl⟩ := hvd
  obtain ⟨bo, m, d, rfl⟩ := hvl
  have HD := hid_intro hD
  have HL := hid_intro hL
  obtain ⟨W0, hW0⟩ : ∃ W0, W0 = w.alloc (.cells #[.slice ao n c, .string a, .int .i64 mo, .int .i64 sq, .slice bo m d, .int .i64 cd] 31) := ⟨_, rfl⟩
  have HB : Hid (Below w.heap.size w W0) := hid_intro (by rw [hW0]; exact (Below.refl _ _).alloc (Nat.le_refl _) _)
  have HX : Hid (Blk w.heap.size [.slice ao n c, .string a, .int .i64 mo, .int .i64 sq, .slice bo m d, .int .i64 cd] W0) := hid_intro (by rw [hW0]; exact Blk.new w [.slice ao n c, .string a, .int .i64 mo, .int .i64 sq, .slice bo m d, .int .i64 cd] 31)
  have HW := hid_intro hW0
  have h1 : ¬ ((K1 : Nat) : Int) < 0 := by omega
  have h2 : ¬ ((K2 : Nat) : Int) < 0 := by omega
  clear hD hL hW0
  go_enter Tryz.func16, Tryz.ntmps16
  go_wp2_with fail
  rw [← HW.out]
  clear HW
  refine (HD.out _ HB.out).mono ?_
  rintro e w1 ⟨rfl, hb⟩
  have HB1 := hid_intro (HB.out.trans (hb.mono HB.out.size))
  have HX1 := hid_intro (HX.out.below hb)
  have xl := HX1.out.1
  have x1 : w1.cell? ⟨w.heap.size, 1, none⟩ = some (.string a) := HX1.out.2 1 (by simp)
  have x2 : w1.cell? ⟨w.heap.size, 2, none⟩ = some (.int .i64 mo) := HX1.out.2 2 (by simp)
  have x3 : w1.cell? ⟨w.heap.size, 3, none⟩ = some (.int .i64 sq) := HX1.out.2 3 (by simp)
  have x4 : w1.cell? ⟨w.heap.size, 4, none⟩ = some (.slice bo m d) := HX1.out.2 4 (by simp)
  clear hb HX HB
  go_wp2_with fail
  refine (HL.out _ HB1.out).mono ?_
  rintro e w2 ⟨rfl, hb⟩
  have HB2 := hid_intro (HB1.out.trans (hb.mono HB1.out.size))
  clear hb x1 x2 x3 x4 xl
  go_wp2_with fail
  go_ret
  exact ⟨rfl, HB2.out⟩
/-- The whole answer marked, and its marks read later on. -/
theorem markO (base : Nat) (v : Value) (ds : List D) (x : D) (cd : Int) (w : World) (hlen : ds.length ≤ 1048576) (hln : ∀ d ∈ ds, d.ls.length ≤ 1048576) (hx : x.ls.length ≤ 1048576) (ht : tot ds ≤ 5300000) (Wt : World) (h : LoO base v ds x cd Wt) (hWt : Below Wt.heap.size Wt w) :
    Calls Tryz.prog 15 #[v, .int .i64 1] w fun e w' => ∃ KK : Nat, e = .returned (.int .i64 KK) ∧ Ot base Wt.heap.size w w' ∧
      ∀ w2, Below w'.heap.size w' w2 → Calls Tryz.prog 16 #[v, .int .i64 1] w2 fun e w3 => e = .returned (.int .i64 KK) ∧ Below w2.heap.size w2 w3 := by
  obtain ⟨vd, xs, la, lc, rfl, h1, h2, h3, h4, h5, h6⟩ := h
  have hl : ds.length = xs.length := by rw [← h1]; simp
  rw [hl] at h2 hlen
  have hlx : ∀ y ∈ xs, y.d.ls.length ≤ 1048576 := fun y hy => hln _ (by rw [← h1]; exact List.mem_map_of_mem hy)
  rw [← h1] at ht
  have hlt : ∀ b, (vd.ownBlock = some b ∨ ∃ y ∈ xs, y.v.ownBlock = some b) → b < Wt.heap.size := by
    rintro b (q | ⟨y, hy, q⟩)
    · exact (h2.lt b q).2
    · exact ((h3 y hy).lt b q).2
  have hlx2 : ∀ b, (DA.mk x la lc).v.ownBlock = some b → b < Wt.heap.size := fun b q => (h5.lt b q).2
  have hts := hWt.size
  replace h2 := RowG.own_below h2 hWt
  replace h3 := fun y hy => (RowG.own_below (h3 y hy) hWt : LnO base y w)
  replace h5 : LnO base ⟨x, la, lc⟩ w := RowG.own_below h5 hWt
  have hvd : ∃ ao n c, vd = .slice ao n c := by
    obtain ⟨ao, cap, e, _⟩ := RowG.own_made (z := DA.zero) DA.len h2
    exact ⟨ao, _, cap, e⟩
  obtain ⟨T, hT⟩ : ∃ T, T = 1 + tot (xs.map DA.d) := ⟨_, rfl⟩
  have hD := fun W (hW : Below w.heap.size w W) => markDsO base vd xs W hlen hlx ht (RowG.own_below h2 hW) (fun y hy => RowG.own_below (h3 y hy) hW) h4
  rw [← hT] at hD
  have hT2 : 1 ≤ T ∧ T ≤ 5300001 := by omega
  clear ht
  let P : World → World → Prop := fun W W' => ∃ S : Nat → Prop, Chg S W W' ∧ (∀ b, S b → base ≤ b ∧ (vd.ownBlock = some b ∨ ∃ y ∈ xs, y.v.ownBlock = some b)) ∧
      (∀ (S' : Nat → Prop) w2, Chg S' W' w2 → (∀ b, S' b → ¬ S b) → Calls Tryz.prog 38 #[vd, .int .i64 1] w2 fun e w3 => e = .returned (.int .i64 (T : Nat)) ∧ Below w2.heap.size w2 w3)
  let X : DA := ⟨x, la, lc⟩
  let Q : World → World → Prop := fun W W' => ∃ S : Nat → Prop, Chg S W W' ∧ (∀ b, S b → base ≤ b ∧ X.v.ownBlock = some b) ∧
      (∀ (S' : Nat → Prop) w2, Chg S' W' w2 → (∀ b, S' b → ¬ S b) → Calls Tryz.prog 60 #[X.v, .int .i64 T] w2 fun e w3 => e = .returned (.int .i64 (T + 2 * X.d.ls.length : Nat)) ∧ Below w2.heap.size w2 w3)
  have hxa : ∀ b, (vd.ownBlock = some b ∨ ∃ y ∈ xs, y.v.ownBlock = some b) → X.v.ownBlock ≠ some b := by
    rintro b (q | ⟨y, hy, q⟩) q2
    · exact OwG.own_apart h5 h2 (by decide) b q2 q.symm
    · exact h6 y hy b q q2
  have hlk : ∀ W W', P W W' → Below w.heap.size w W → LnO base X W' := by
    rintro W W' ⟨S, hc, hS, _⟩ hW
    have h7 : LnO base X W := RowG.own_below h5 hW
    refine ⟨h7.1, ?_⟩
    rcases h7.2 with hn | ⟨g, cap, cur, e1, e2, hg, rest⟩
    · exact .inl hn
    · exact .inr ⟨g, cap, cur, e1, e2, (hc.block g (Array.getElem?_eq_some_iff.1 hg).1 (fun q => hxa g (hS g q).2 (by rw [e1]; rfl))).trans hg, rest⟩
  have key := markO_in vd x.a x.mo x.sq cd X.v (T : Nat) (T + 2 * X.d.ls.length : Nat) P (fun W w' => ∃ W2, Below W.heap.size W W2 ∧ Q W2 w') w hvd ⟨_, _, _, rfl⟩ hD
    (fun W W' hp => by
      obtain ⟨S, hc, hS, _⟩ := hp
      refine ⟨hc.size, fun b cs hb hW hB => ?_⟩
      have eb := hc.block b hB.1 (fun q => by have := hlt b (hS b q).2; omega)
      exact ⟨Nat.lt_of_lt_of_le hB.1 hc.size, fun i hi => (World.cell?_of_block (a := ⟨b, i, none⟩) eb).trans (hB.2 i hi)⟩)
    (fun W0 W hW0 hp => markDoc_in x.a x.mo x.sq (T : Nat) (T + 2 * X.d.ls.length : Nat) X.v Q W (fun _ _ q q2 => q2.trans (q.mono q2.size)) (fun W2 hW2 => markLnO base T X W2 hT2.1 hT2.2 hx (RowG.own_below (hlk W0 W hp hW0) hW2)) ⟨_, _, _, rfl⟩)
  refine key.mono ?_
  rintro e w' ⟨rfl, W0, W1, hb0, ⟨S, hc, hS, hH⟩, W2, hb2, ⟨S2, hc2, hS2, hH2⟩⟩
  refine ⟨_, rfl, ⟨?_, ?_, ?_, ?_, fun b hb hq => ?_⟩, fun w2 hw2 => ?_⟩
  · rw [hc2.os, hb2.os, hc.os, hb0.os]
  · rw [hc2.tape, hb2.tape, hc.tape, hb0.tape]
  · rw [hc2.output, hb2.output, hc.output, hb0.output]
  · have := hc2.size
    have := hb2.size
    have := hc.size
    have := hb0.size
    omega
  · have s0 := hb0.size
    have s1 := hc.size
    have s2 := hb2.size
    rw [hc2.block b (by omega) (fun q => by have := (hS2 b q).1; have := hlx2 b (hS2 b q).2; omega), hb2.block b (by omega), hc.block b (by omega) (fun q => by have := (hS b q).1; have := hlt b (hS b q).2; omega), hb0.block b hb]
  · refine heldO_in vd x.a x.mo x.sq cd X.v T (T + 2 * X.d.ls.length) w2 hvd ⟨_, _, _, rfl⟩ (fun W hW => ?_) (fun W hW => ?_)
    · have c1 : Chg S2 W1 W2 := Chg.of_below hb2
      have c2 : Chg S2 W1 w' := c1.trans hc2
      have c3 : Chg S2 W1 w2 := c2.below hw2
      exact hH S2 W (c3.below hW) (fun b q q2 => hxa b (hS b q2).2 (hS2 b q).2)
    · refine heldDoc_in x.a x.mo x.sq (T : Nat) (T + 2 * X.d.ls.length) X.v W (fun W3 hW3 => ?_) ⟨_, _, _, rfl⟩
      exact hH2 (fun _ => False) W3 (((Chg.of_below hw2).below hW).below hW3) (fun b q => q.elim)
end LedR
end Go.Proofs.YtakeiankhfdjdaaGreatDoor
namespace Go.Proofs.YtakeiankhfdjdaaGreatDoor
open Go.ChangeShapes Go.WideShapes Go.ChangeAt Go.RowKit
set_option linter.unusedVariables false
namespace LedR
open LinR RowG LtR NetR DocR
open EvtR (Pt)
open CatR (Blk Blk.new)
/-- What lies in blocks from base on is as it was. -/
structure Kp (base : Nat) (w w' : World) : Prop where
  size : w.heap.size ≤ w'.heap.size
  block : ∀ k, base ≤ k → k < w.heap.size → w'.heap[k]? = w.heap[k]?
theorem Kp.refl (base : Nat) (w : World) : Kp base w w := ⟨Nat.le_refl _, fun _ _ _ => rfl⟩
theorem Kp.below {base : Nat} {w w1 w2 : World} (h : Kp base w w1) (hb : Below w1.heap.size w1 w2) : Kp base w w2 :=
  ⟨Nat.le_trans h.size hb.size, fun k h1 h2 => (hb.block k (by have := h.size; omega)).trans (h.block k h1 h2)⟩
theorem Kp.ot {base g top : Nat} {w w1 w2 : World} (h : Kp base w w1) (ho : Ot g top w1 w2) (ht : top ≤ base) : Kp base w w2 :=
  ⟨Nat.le_trans h.size ho.size, fun k h1 h2 => (ho.block k (by have := h.size; omega) (.inr (by omega))).trans (h.block k h1 h2)⟩
theorem own_kp {W W' : World} {base e size n : Nat} {v : Value} {xs : List Value} (h : W.ownsRow base e size v n xs) (hk : ∀ k, base ≤ k → k < W.heap.size → W'.heap[k]? = W.heap[k]?) : W'.ownsRow base e size v n xs := by
  have hl := h.lt
  obtain ⟨h1, h2⟩ := h
  refine ⟨h1, h2.imp id ?_⟩
  rintro ⟨g, cap, cur, rfl, hg, hh, rest⟩
  refine ⟨g, cap, cur, rfl, hg, ?_, rest⟩
  rw [hk g hg (hl g rfl).2]
  exact hh
theorem LoO.kp {base : Nat} {v : Value} {ds : List D} {x : D} {cd : Int} {W W' : World} (h : LoO base v ds x cd W) (hk : ∀ k, base ≤ k → k < W.heap.size → W'.heap[k]? = W.heap[k]?) : LoO base v ds x cd W' := by
  obtain ⟨vd, xs, la, lc, rfl, h1, h2, h3, h4, h5, h6⟩ := h
  exact ⟨vd, xs, la, lc, rfl, h1, own_kp h2 hk, fun y hy => own_kp (h3 y hy) hk, h4, own_kp h5 hk, h6⟩
/-- The world with its first blocks alone. -/
def cut (W : World) (n : Nat) : World := { W with heap := W.heap.extract 0 n }
theorem cut_size {W : World} {n : Nat} (h : n ≤ W.heap.size) : (cut W n).heap.size = n := by simp [cut]; omega
theorem cut_get {W : World} {n k : Nat} (h : n ≤ W.heap.size) (hk : k < n) : (cut W n).heap[k]? = W.heap[k]? := by
  simp only [cut]
  rw [Array.getElem?_extract]
  rw [if_pos (by omega), Nat.zero_add]
theorem cut_below {W : World} {n : Nat} (h : n ≤ W.heap.size) : Below n (cut W n) W :=
  ⟨rfl, rfl, rfl, by rw [cut_size h]; exact h, fun k hk => (cut_get h hk).symm⟩
theorem markOK (base : Nat) (v : Value) (ds : List D) (x : D) (cd : Int) (hlen : ds.length ≤ 1048576) (hln : ∀ d ∈ ds, d.ls.length ≤ 1048576) (hx : x.ls.length ≤ 1048576) (ht : tot ds ≤ 5300000) (Wt W : World) (h : LoO base v ds x cd Wt) (hk : Kp base Wt W) :
    Calls Tryz.prog 15 #[v, .int .i64 1] W fun e w' => ∃ KK : Nat, e = .returned (.int .i64 KK) ∧ Ot base Wt.heap.size W w' ∧
      ∀ w2, Below w'.heap.size w' w2 → Calls Tryz.prog 16 #[v, .int .i64 1] w2 fun e w3 => e = .returned (.int .i64 KK) ∧ Below w2.heap.size w2 w3 := by
  have h2 : LoO base v ds x cd (cut W Wt.heap.size) := h.kp (fun k h1 h2 => (cut_get hk.size h2).trans (hk.block k h1 h2))
  have h3 := markO base v ds x cd W hlen hln hx ht (cut W Wt.heap.size) h2 (by rw [cut_size hk.size]; exact cut_below hk.size)
  rw [cut_size hk.size] at h3
  exact h3
theorem ot_blk {g top b : Nat} {cs : List Value} {w w' : World} (h : Ot g top w w') (hb : Blk b cs w) (hq : b < g ∨ top ≤ b) : Blk b cs w' := by
  have eb := h.block b hb.1 hq
  exact ⟨Nat.lt_of_lt_of_le hb.1 h.size, fun i hi => (World.cell?_of_block (a := ⟨b, i, none⟩) eb).trans (hb.2 i hi)⟩
theorem ot_pt {g top b n : Nat} {w w' : World} (h : Ot g top w w') (hb : Pt b n w) (hq : b < g ∨ top ≤ b) : Pt b n w' := ChG.pt_block hb h.size (h.block b hb.lt hq)
theorem ot_of {g : Nat} {w w' : World} (h : w.grownBy w' (some g)) : Ot g (g + 1) w w' := (Ot.refl g (g + 1) w).grown h (by omega)
theorem isC_form {ds : List D} {a : ByteArray} {m : Int} {bl : List N} (h : isC ds a m bl = 0) : LRight ds ∧ SRight bl := by
  by_cases hb : 400 < ds.length ∨ 8000 < a.size ∨ 400 < bl.length
  · have := (isBig ds a m bl hb).2.2
    omega
  · cases hf : isFormB ds a m bl
    · have := (isForm ds a m bl hb hf).2.2
      omega
    · unfold isFormB at hf
      simp only [Bool.and_eq_true] at hf
      exact ⟨lB_iff.1 hf.1, sB_iff.1 hf.2.2.2⟩
theorem more_small {ds : List D} {a : ByteArray} {m : Int} {bl : List N} (hlr : LRight ds) (hsr : SRight bl) (hSm : ∀ d ∈ ds, d.Sm) (hsb : ∀ e ∈ bl, e.i.size ≤ 1048576) : (clL (moreG ds a m bl)).length ≤ 1000 ∧ ∀ e ∈ clL (moreG ds a m bl), e.i.size ≤ 1048576 := by
  constructor
  · have h1 := clL_len (moreG ds a m bl)
    have h2 := all_len bl ((net ds a m).filter nz) (-1)
    have h3 := List.length_filter_le nz (net ds a m)
    have h4 := hsr.1
    have h5 := (net_facts (ds := ds) ds.length (Nat.le_refl _) hlr.2.1 a m).2.1
    rw [List.take_length] at h5
    have h6 := hlr.1
    unfold moreG at *
    omega
  · intro e he
    have h1 : e ∈ moreG ds a m bl := by
      unfold clL at he
      cases h : ovB (moreG ds a m bl)
      · rw [h] at he; simp at he
      · rw [h, cond_true] at he; exact (List.mem_filter.1 he).1
    exact all_size hsb (fun e he => net_size (a := a) (m := m) ds [] (fun d hd => (hSm d hd).2.2) (fun y h => by cases h) e (List.mem_filter.1 he).1) e h1
theorem dsS_le : ∀ {ds : List D} {l : Int}, ¬ dsS l ds < 0 → dsS l ds ≤ l
  | [], l, h => by simp [dsS]
  | x :: ds, l, h => by
    rw [dsS] at h ⊢
    by_cases q : dszR l x < 0
    · rw [if_pos q] at h; exact absurd (by omega) h
    · rw [if_neg q] at h ⊢
      have h1 := dsz_le q
      have h2 := dsS_le h
      omega
theorem szDR_le {ds : List D} (h : ¬ szDR ds < 0) : szDR ds ≤ 1048576 := by
  unfold szDR at h ⊢
  split at h
  · exact absurd (by omega) h
  · rename_i q
    rw [if_neg q]
    have := dsS_le h
    omega
theorem tot_1000 : ∀ ds : List D, (∀ d ∈ ds, d.ls.length ≤ 1000) → tot ds ≤ 2003 * ds.length
  | [], _ => Nat.le_refl _
  | d :: ds, h => by
    have h1 := tot_1000 ds (fun d hd => h d (List.mem_cons_of_mem _ hd))
    have h2 := h d (List.mem_cons_self ..)
    simp only [tot, List.map_cons, List.sum_cons, List.length_cons] at *
    omega
theorem is_small {ds : List D} {a : ByteArray} {m : Int} {bl : List N} (hSm : ∀ d ∈ ds, d.Sm) (ha : a.size ≤ 1048576) (hsb : ∀ e ∈ bl, e.i.size ≤ 1048576) : (isD ds a m bl).length ≤ 31 ∧ (∀ d ∈ isD ds a m bl, d.Sm) ∧ (∀ d ∈ isD ds a m bl, d.ls.length ≤ 1000) ∧ (isX ds a m bl).ls.length ≤ 1000 := by
  by_cases h : isC ds a m bl = 0
  · obtain ⟨hlr, hsr⟩ := isC_form h
    have hm := more_small (a := a) (m := m) hlr hsr hSm hsb
    unfold isD isX
    rw [if_pos h, if_pos h]
    have h30 := hlr.1
    refine ⟨by simp; omega, fun d hd => ?_, fun d hd => ?_, hm.1⟩
    · rcases List.mem_append.1 hd with q | q
      · exact hSm d q
      · rw [List.mem_singleton] at q
        subst q
        exact ⟨ha, by have := hm.1; exact Nat.le_trans this (by omega), hm.2⟩
    · rcases List.mem_append.1 hd with q | q
      · obtain ⟨i, hi, rfl⟩ := List.getElem_of_mem q
        have := (hlr.2.1 i hi).1
        rw [show ds.getD i D.zero = ds[i] by simp [List.getD, hi]] at this
        have h6 := (dB_lines this).1
        omega
      · rw [List.mem_singleton] at q
        subst q
        exact hm.1
  · unfold isD isX
    rw [if_neg h, if_neg h]
    exact ⟨by simp, (fun d hd => by cases hd), (fun d hd => by cases hd), by simp [D.zero]⟩
end LedR
end Go.Proofs.YtakeiankhfdjdaaGreatDoor
namespace Go.Proofs.YtakeiankhfdjdaaGreatDoor
open Go.ChangeShapes Go.WideShapes Go.RowKit
namespace Hnd
theorem laidOut : laidOutB Tryz.prog = true := by kernel_rfl
theorem own : ownKnob Tryz.prog.godebug = none := by kernel_rfl
theorem et : Tryz.prog.globalNamed "errors.errorType" = some 0 := by kernel_rfl
theorem rt : (Tryz.prog.cutTypes.find? (·.1 == "internal/reflectlite.rtype")).map (·.2) = some 117 := by kernel_rfl
theorem oneRow : ((List.range 184).filter fun t => Tryz.prog.rowNamed t [101, 114, 114, 111, 114]) = [57] := by kernel_rfl
theorem size : Tryz.prog.types.size = 184 := by kernel_rfl
def laid {H : Type} : List (String × DataW H) := [("errors.errorType", Rows.laid_errors_errorType)]
theorem handle_of_laid {W : World} (h : laidMetH Tryz.prog laid W) : W.cell? ⟨0, 0, none⟩ = some (.iface 117 (.agg #[.pointer (some ⟨1, 57, none⟩)])) := by
  have h' : laidMet Tryz.prog [] W ∧ handlesMet Tryz.prog laid W := h
  obtain ⟨name, u, ty, e1, e2, e3, e4, e5⟩ := h'.2 _ (List.mem_singleton.2 rfl)
  have en : name = [101, 114, 114, 111, 114] := (Option.some.inj e1).symm
  subst en
  obtain rfl := Option.some.inj (rt.symm.trans e2)
  have hm : ty ∈ (List.range 184).filter fun t => Tryz.prog.rowNamed t [101, 114, 114, 111, 114] := List.mem_filter.2 ⟨List.mem_range.2 (by rw [← size]; exact e3), e4⟩
  rw [oneRow] at hm
  obtain rfl := List.mem_singleton.1 hm
  have hh : typeHandle Tryz.prog 57 = .pointer (some ⟨1, 57, none⟩) := by kernel_rfl
  rw [hh] at e5
  simpa using World.var?_cell et e5 0
theorem laid_of {W : World} (h : laidMetH Tryz.prog laid W) : AsD.Laid W := by
  have hg := handle_of_laid h
  refine ⟨?_, hg⟩
  rcases Nat.eq_zero_or_pos W.heap.size with h0 | h
  · simp [World.cell?, h0] at hg
  · exact h
theorem of_laid {W : World} (h : laidMetH Tryz.prog laid W) : AsD.Laid W := laid_of h
/-- A world that meets the premise: the settled one, the variable's cell laid. -/
theorem world_met (os : Os) (args : Array Value) : laidMetH Tryz.prog laid (({ World.holding Tryz.prog os ⟨#[], #[], []⟩ with heap := (World.holding Tryz.prog os ⟨#[], #[], []⟩).heap.modify 0 fun | .cells _ t frozen => .cells #[.iface 117 (.agg #[.pointer (some ⟨1, 57, none⟩)])] t frozen | o => o } : World).forCall (fun _ _ => 0) ⟨#[], args, []⟩).memory :=
  laidMetH_of_parts (laidMet_nil _ _) (by kernel_rfl)
end Hnd
end Go.Proofs.YtakeiankhfdjdaaGreatDoor
