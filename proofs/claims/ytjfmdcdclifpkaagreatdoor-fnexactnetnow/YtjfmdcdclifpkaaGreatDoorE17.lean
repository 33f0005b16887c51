/-
  What slices.Sorted(maps.Keys(m)) hands back: the keys of m, sorted, in a new list. The kit's contracts, applied to this program. No condition.
  The program's nets: whether one runs beyond, and its lines. The conditions: at most 1048576 Meters of at most 1048576 bytes.
  A list of lines that came in, read as a row. No condition.
  What a list of lines that the law does not pass by is like. No condition.
  The model's and the program's Less: both hand back the same lines. The conditions: what right lines are.
-/
import Derived.Shelf.SlIter.Nil
import Derived.Shelf.SortM.Plain
import Derived.Shelf.SortM.SortNone
import Derived.Ground.GgzProg
import Derived.Ground.SlgmProg
import Derived.Test.YtjfmdcdclifpkaaGreatDoorProg
import Derived.Deep.Fields
import Derived.OpenVars
import Derived.Carry
import Derived.ChangeMaps5
import Derived.Lib.SmallJoins
import Derived.DataReads
import Derived.Test.YtjfmdcdclifpkaaGreatDoorE16
namespace Go.Proofs
open Go.RowKit Go.Maps Go.Sort Go.Shelf
def Tryz.keys144_ren : Go.Shelf.Ren := ⟨fun | 7 => 144 | 10 => 196 | n => n, fun | 23 => 137 | 26 => 9 | 3 => 2 | 28 => 201 | 0 => 0 | 27 => 200 | 33 => 173 | 4 => 4 | n => n, fun | n => n⟩
theorem Tryz.keys144 : Go.Proofs.SlLaysZ.n7 Tryz.prog Tryz.keys144_ren := {
  mixed := by kernel_rfl
  f7 := ⟨Tryz.f144.name, by decide, Tryz.func144.trans (congrArg some (by kernel_rfl))⟩
  f10 := ⟨Tryz.f196.name, by decide, Tryz.func196.trans (congrArg some (by kernel_rfl))⟩
  t0 := Tryz.underlying0
  a0 := Tryz.isAgg0
  z0 := Tryz.sizeOf0
  v0 := Tryz.zeroValue0
  t4 := Tryz.underlying4
  a4 := Tryz.isAgg4
  z4 := Tryz.sizeOf4
  v4 := Tryz.zeroValue4
  t23 := Tryz.underlying137
  a23 := Tryz.isAgg137
  z23 := Tryz.sizeOf137
  v23 := Tryz.zeroValue137
  t26 := Tryz.underlying9
  a26 := Tryz.isAgg9
  z26 := Tryz.sizeOf9
  v26 := Tryz.zeroValue9
  t27 := Tryz.underlying200
  a27 := Tryz.isAgg200
  z27 := Tryz.sizeOf200
  v27 := Tryz.zeroValue200
  t28 := Tryz.underlying201
  a28 := Tryz.isAgg201
  z28 := Tryz.sizeOf201
  v28 := Tryz.zeroValue201
  t33 := Tryz.underlying173
  a33 := Tryz.isAgg173
  z33 := Tryz.sizeOf173
  v33 := Tryz.zeroValue173 }
def Tryz.sorted143_ren : Go.Shelf.Ren := ⟨fun | 6 => 143 | 8 => 194 | 9 => 195 | 11 => 223 | 13 => 225 | 12 => 224 | 23 => 248 | 24 => 249 | 14 => 239 | 15 => 240 | 16 => 241 | 17 => 242 | 18 => 243 | 19 => 244 | 20 => 245 | 21 => 246 | 22 => 247 | 25 => 252 | 26 => 253 | 27 => 254 | 28 => 255 | 29 => 256 | 30 => 257 | 31 => 259 | n => n, fun | 26 => 9 | 28 => 201 | 24 => 101 | 0 => 0 | 3 => 3 | 37 => 277 | 48 => 302 | 50 => 304 | 4 => 4 | 40 => 294 | 39 => 293 | 45 => 299 | 5 => 5 | 9 => 9 | 51 => 306 | 55 => 310 | 57 => 312 | 58 => 313 | 33 => 173 | n => n, fun | n => n⟩
theorem Tryz.sorted143 : Go.Proofs.SlLaysZ.n6 Tryz.prog Tryz.sorted143_ren := {
  mixed := by kernel_rfl
  f6 := ⟨Tryz.f143.name, by decide, Tryz.func143.trans (congrArg some (by kernel_rfl))⟩
  f8 := ⟨Tryz.f194.name, by decide, Tryz.func194.trans (congrArg some (by kernel_rfl))⟩
  f11 := ⟨Tryz.f223.name, by decide, Tryz.func223.trans (congrArg some (by kernel_rfl))⟩
  t0 := Tryz.underlying0
  a0 := Tryz.isAgg0
  z0 := Tryz.sizeOf0
  v0 := Tryz.zeroValue0
  t24 := Tryz.underlying101
  a24 := Tryz.isAgg101
  z24 := Tryz.sizeOf101
  v24 := Tryz.zeroValue101
  t26 := Tryz.underlying9
  a26 := Tryz.isAgg9
  z26 := Tryz.sizeOf9
  v26 := Tryz.zeroValue9
  t28 := Tryz.underlying201
  a28 := Tryz.isAgg201
  z28 := Tryz.sizeOf201
  v28 := Tryz.zeroValue201
  i26 := by kernel_rfl }
def Tryz.sort195_ren : Go.Shelf.Ren := ⟨fun | 6 => 195 | 8 => 225 | 9 => 224 | 19 => 248 | 20 => 249 | 21 => 239 | 22 => 240 | 23 => 241 | 24 => 242 | 25 => 243 | 26 => 244 | 27 => 245 | 28 => 246 | 29 => 247 | 36 => 252 | 31 => 253 | 32 => 254 | 37 => 255 | 38 => 256 | 39 => 257 | 41 => 259 | n => n, fun | 27 => 101 | 29 => 9 | 3 => 3 | 32 => 277 | 26 => 101 | 0 => 0 | 44 => 302 | 46 => 304 | 4 => 4 | 36 => 294 | 35 => 293 | 41 => 299 | 5 => 5 | 9 => 9 | 53 => 306 | 57 => 310 | 63 => 312 | 64 => 313 | n => n, fun | n => n⟩
theorem Tryz.sort195 : Go.Proofs.SlLaysM.n6 Tryz.prog Tryz.sort195_ren := {
  mixed := by kernel_rfl
  f6 := ⟨Tryz.f195.name, by decide, Tryz.func195.trans (congrArg some (by kernel_rfl))⟩
  f8 := Tryz.func225.trans (congrArg some (by kernel_rfl))
  f9 := ⟨Tryz.f224.name, by decide, Tryz.func224.trans (congrArg some (by kernel_rfl))⟩
  f19 := Tryz.func248.trans (congrArg some (by kernel_rfl))
  f20 := Tryz.func249.trans (congrArg some (by kernel_rfl))
  f21 := ⟨Tryz.f239.name, by decide, Tryz.func239.trans (congrArg some (by kernel_rfl))⟩
  f22 := ⟨Tryz.f240.name, by decide, Tryz.func240.trans (congrArg some (by kernel_rfl))⟩
  f23 := ⟨Tryz.f241.name, by decide, Tryz.func241.trans (congrArg some (by kernel_rfl))⟩
  f24 := ⟨Tryz.f242.name, by decide, Tryz.func242.trans (congrArg some (by kernel_rfl))⟩
  f25 := ⟨Tryz.f243.name, by decide, Tryz.func243.trans (congrArg some (by kernel_rfl))⟩
  f26 := ⟨Tryz.f244.name, by decide, Tryz.func244.trans (congrArg some (by kernel_rfl))⟩
  f27 := ⟨Tryz.f245.name, by decide, Tryz.func245.trans (congrArg some (by kernel_rfl))⟩
  f28 := ⟨Tryz.f246.name, by decide, Tryz.func246.trans (congrArg some (by kernel_rfl))⟩
  f29 := ⟨Tryz.f247.name, by decide, Tryz.func247.trans (congrArg some (by kernel_rfl))⟩
  f31 := Tryz.func253.trans (congrArg some (by kernel_rfl))
  f32 := Tryz.func254.trans (congrArg some (by kernel_rfl))
  f36 := ⟨Tryz.f252.name, by decide, Tryz.func252.trans (congrArg some (by kernel_rfl))⟩
  f37 := ⟨Tryz.f255.name, by decide, Tryz.func255.trans (congrArg some (by kernel_rfl))⟩
  f38 := ⟨Tryz.f256.name, by decide, Tryz.func256.trans (congrArg some (by kernel_rfl))⟩
  f39 := ⟨Tryz.f257.name, by decide, Tryz.func257.trans (congrArg some (by kernel_rfl))⟩
  f41 := ⟨Tryz.f259.name, by decide, Tryz.func259.trans (congrArg some (by kernel_rfl))⟩
  t0 := Tryz.underlying0
  a0 := Tryz.isAgg0
  z0 := Tryz.sizeOf0
  v0 := Tryz.zeroValue0
  t3 := Tryz.underlying3
  a3 := Tryz.isAgg3
  z3 := Tryz.sizeOf3
  v3 := Tryz.zeroValue3
  t4 := Tryz.underlying4
  a4 := Tryz.isAgg4
  z4 := Tryz.sizeOf4
  v4 := Tryz.zeroValue4
  t5 := Tryz.underlying5
  a5 := Tryz.isAgg5
  z5 := Tryz.sizeOf5
  v5 := Tryz.zeroValue5
  t9 := Tryz.underlying9
  a9 := Tryz.isAgg9
  z9 := Tryz.sizeOf9
  v9 := Tryz.zeroValue9
  t26 := Tryz.underlying101
  a26 := Tryz.isAgg101
  z26 := Tryz.sizeOf101
  v26 := Tryz.zeroValue101
  t27 := Tryz.underlying101
  a27 := Tryz.isAgg101
  z27 := Tryz.sizeOf101
  v27 := Tryz.zeroValue101
  t29 := Tryz.underlying9
  a29 := Tryz.isAgg9
  z29 := Tryz.sizeOf9
  v29 := Tryz.zeroValue9
  t32 := Tryz.underlying277
  a32 := Tryz.isAgg277
  z32 := Tryz.sizeOf277
  v32 := Tryz.zeroValue277
  t35 := Tryz.underlying293
  a35 := Tryz.isAgg293
  z35 := Tryz.sizeOf293
  v35 := Tryz.zeroValue293
  t36 := Tryz.underlying294
  a36 := Tryz.isAgg294
  z36 := Tryz.sizeOf294
  v36 := Tryz.zeroValue294
  t41 := Tryz.underlying299
  a41 := Tryz.isAgg299
  z41 := Tryz.sizeOf299
  v41 := Tryz.zeroValue299
  t44 := Tryz.underlying302
  a44 := Tryz.isAgg302
  z44 := Tryz.sizeOf302
  v44 := Tryz.zeroValue302
  t46 := Tryz.underlying304
  a46 := Tryz.isAgg304
  z46 := Tryz.sizeOf304
  v46 := Tryz.zeroValue304
  t53 := Tryz.underlying306
  a53 := Tryz.isAgg306
  z53 := Tryz.sizeOf306
  v53 := Tryz.zeroValue306
  t57 := Tryz.underlying310
  a57 := Tryz.isAgg310
  z57 := Tryz.sizeOf310
  v57 := Tryz.zeroValue310
  t63 := Tryz.underlying312
  a63 := Tryz.isAgg312
  z63 := Tryz.sizeOf312
  v63 := Tryz.zeroValue312
  t64 := Tryz.underlying313
  a64 := Tryz.isAgg313
  z64 := Tryz.sizeOf313
  v64 := Tryz.zeroValue313 }
theorem Tryz.sorts143 (m : Nat) : AnyZ.SortsIn Tryz.prog Tryz.sorted143_ren Fence.wide m :=
  ⟨fun blk off cap ss W hH hblk hsz => callsIn_wide.2 (AnyM.slices_Sort_string Tryz.sort195 blk off cap ss W hH hblk hsz),
   fun p cap W => callsIn_wide.2 (AnyM.slices_Sort_string_none Tryz.sort195 p cap W)⟩
theorem Tryz.maps_Keys_144 (mb : Option Nat) (W : World) : CallsIn Fence.wide 5 Tryz.prog 144 #[.map mb] W fun e w' => e = .returned (.func (.func 196) #[] #[.pointer (some ⟨W.heap.size, 0, none⟩)]) ∧ w' = W.alloc (.cells #[.map mb] 137) :=
  AnyZ.keys_in Tryz.keys144 Fence.wide 5 trivial rfl mb W
set_option maxHeartbeats 1000000 in
theorem Tryz.slices_Sorted_keys_143_144 {H : Type} (b nn : Nat) (D0 : DataW H) (R : Value → Option (DataW H × List MemPlace)) (w : World) (hown : w.ownsMap Tryz.prog 9 R b nn D0) (hmax : Maps.size D0 ≤ maxLen) (hbytes : Maps.size D0 * 16 ≤ 140737488355328) :
    CallsIn Fence.wide 5 Tryz.prog 143 #[.func (.func 196) #[] #[.pointer (some ⟨w.heap.size, 0, none⟩)]] (w.alloc (.cells #[.map (some b)] 137)) fun e w' => ∃ (v : Value) (ss : List (List UInt8)), e = .returned v ∧ ss.Perm (strKeys D0) ∧
      w'.ownsRow (w.alloc (.cells #[.map (some b)] 137)).heap.size 9 1 v ss.length ((ss.mergeSort (fun x y => decide (x ≤ y))).map encStr) ∧ (v = .slice none 0 0 ↔ ss = []) ∧ Below (w.alloc (.cells #[.map (some b)] 137)).heap.size (w.alloc (.cells #[.map (some b)] 137)) w' := by
  have hbl := hown.lt
  have hseq : SeqGives Fence.wide 2 Tryz.prog 196 #[.pointer (some ⟨w.heap.size, 0, none⟩)] encStr (fun ss => ss.Perm (strKeys D0)) (Maps.size D0) (w.alloc (.cells #[.map (some b)] 137)) :=
    AnyZ.keys_gives (ρ := Tryz.keys144_ren) { Tryz.keys144 with } Fence.wide _ trivial rfl (by omega) w.heap.size b nn D0 _ (by simp) (by simp) (by
      obtain ⟨es, clock, hb, Ft, hs, hD⟩ := hown
      exact ⟨es, clock, (Below.heap_alloc _ _ b hbl).trans hb, Ft, hs, hD⟩)
  exact AnyZ.sorted_in Tryz.sorted143 Fence.wide 5 trivial trivial trivial trivial rfl (by omega) (Tryz.sorts143 _) (enters_of Tryz.func195 (by kernel_rfl) rfl) 196 #[.pointer (some ⟨w.heap.size, 0, none⟩)] trivial (enters_of Tryz.func196 (by kernel_rfl) rfl) _ _ hmax hbytes _ hseq
set_option maxHeartbeats 1000000 in
theorem Tryz.slices_Sorted_keys_nil_143_144 (w : World) :
    CallsIn Fence.wide 5 Tryz.prog 143 #[.func (.func 196) #[] #[.pointer (some ⟨w.heap.size, 0, none⟩)]] (w.alloc (.cells #[.map none] 137)) fun e w' => ∃ (v : Value) (ss : List (List UInt8)), e = .returned v ∧ ss = [] ∧
      w'.ownsRow (w.alloc (.cells #[.map none] 137)).heap.size 9 1 v ss.length ((ss.mergeSort (fun x y => decide (x ≤ y))).map encStr) ∧ (v = .slice none 0 0 ↔ ss = []) ∧ Below (w.alloc (.cells #[.map none] 137)).heap.size (w.alloc (.cells #[.map none] 137)) w' := by
  have hseq : SeqGives Fence.wide 2 Tryz.prog 196 #[.pointer (some ⟨w.heap.size, 0, none⟩)] encStr (fun ss : List (List UInt8) => ss = []) 0 (w.alloc (.cells #[.map none] 137)) :=
    AnyZ.keys_gives_nil (ρ := Tryz.keys144_ren) { Tryz.keys144 with } Fence.wide _ trivial rfl w.heap.size _ (by simp) (by simp)
  exact AnyZ.sorted_in Tryz.sorted143 Fence.wide 5 trivial trivial trivial trivial rfl (by omega) (Tryz.sorts143 _) (enters_of Tryz.func195 (by kernel_rfl) rfl) 196 #[.pointer (some ⟨w.heap.size, 0, none⟩)] trivial (enters_of Tryz.func196 (by kernel_rfl) rfl) _ 0 (Nat.zero_le _) (by omega) _ hseq
theorem Tryz.keys_any (mb : Option Nat) (W : World) : Calls Tryz.prog 144 #[.map mb] W fun e w' => e = .returned (.func (.func 196) #[] #[.pointer (some ⟨W.heap.size, 0, none⟩)]) ∧ w' = W.alloc (.cells #[.map mb] 137) := callsIn_wide.1 (Tryz.maps_Keys_144 mb W)
end Go.Proofs
namespace Go.Proofs.YtjfmdcdclifpkaaGreatDoor
open Go.ChangeShapes Go.WideShapes Go.ChangeAt Go.RowKit
set_option linter.unusedVariables false
namespace NetR
open LinR RowG LtR
/-- Why not: a number runs beyond. -/
def ovE (r : Bool) : Value := if r then .nilIface else .iface 195 (.agg #[.int .i64 12])
theorem ov_false {L : List N} {y : N} (hy : y ∈ L) (h : nOk y.n = false) : ovB L = false := by
  unfold ovB
  cases hh : L.all (fun y => nOk y.n)
  · rfl
  · rw [List.all_eq_true] at hh
    have := hh y hy
    rw [h] at this
    cases this
set_option maxRecDepth 100000 in
set_option maxHeartbeats 4000000 in
theorem over_any (b M : Nat) (D : DataW Value) (L : List N) (w : World) (hO : w.ownsMap Tryz.prog 9 (plainElem (H := Value) Tryz.prog 2) b M D) (hN : NetM D L) :
    Calls Tryz.prog 142 #[.map (some b)] w fun e w' => e = .returned (ovE (ovB L)) ∧ Below w.heap.size w w' := by
  have HO := hid_intro hO
  have HN := hid_intro hN
  have hblt := hO.lt
  have HIN := hid_intro (fun n w => inum n w)
  clear hO hN
  go_enter Tryz.func142, Tryz.ntmps142
  go_wp2_with (at_range; refine wpList_range_own _ rfl _ 137 rfl 9 2 keyedS Tryz.underlying137 _ b M D rfl HO.out ?_; intro w0 hrg0 hg0 hs0)
  have HB0 : Hid (Below w.heap.size w w0) := hid_intro ((Below.refl _ _).grown hg0 (Nat.le_refl _) (fun k e => by cases e))
  clear hg0 hs0
  go_frame
  go_loopw [2] (fun v wr => ∃ (left : Lit → Bool) (cnt : Nat), v = .nilIface ∧ wr.ranges Tryz.prog 9 (plainElem (H := Value) Tryz.prog 2) b w.heap.size M D left cnt ∧ Hid (∀ y ∈ L, left (kS y.i) = false → nOk y.n = true) ∧ Hid (Below w.heap.size w wr)) (fun _ wr => wr.rangeLeft b w.heap.size)
  case atStart => exact ⟨_, _, rfl, hrg0, hid_intro (fun y hy h => by rw [(HN.out.has y.i).2 ⟨y, hy, rfl⟩] at h; cases h), HB0⟩
  case round =>
    obtain ⟨left, cnt, rfl, hrg, HLf, HB⟩ := hrel
    have HRG := hid_intro hrg
    have hmeas := hrg.left_eq
    clear hrg
    go_wp2_with (at_next; refine wpList_next_ranges _ rfl _ rfl 9 keyedS _ encStr (Value.int .i64) (fun key kl h => by obtain ⟨x, hx, _⟩ := Maps.keyOf_str Tryz.underlying9 h; exact ⟨x, hx⟩) (fun v y h => by obtain ⟨a, ha, _⟩ := plainElem_int_inv Tryz.underlying2 h; exact ⟨a, ha⟩) b w.heap.size M D left cnt rfl HRG.out ?_ ?_)
    · intro hc0 hl0
      have HE : Hid (ovB L = true) := hid_intro (by unfold ovB; rw [List.all_eq_true]; exact fun y hy => HLf.out y hy (hl0 _))
      clear hl0
      go_wp2_with fail
      go_ret
      exact ⟨by rw [HE.out]; rfl, HB.out⟩
    · intro x c kl yd yp w' cnt' hkey hlk hv hat hrg' hlt hgr hsz hen
      obtain ⟨x', hx', hkl, _⟩ := Maps.keyOf_str Tryz.underlying9 hkey
      obtain ⟨a, ha, hy, _⟩ := plainElem_int_inv Tryz.underlying2 hv
      simp only [Value.int.injEq, true_and] at ha
      subst ha
      simp only [Prod.mk.injEq] at hy
      obtain ⟨rfl, _⟩ := hy
      obtain ⟨q, hq, hqk⟩ := HN.out.key ⟨x', hkl⟩ (Maps.has_true_of_atKey hat)
      have hqn : q.n = c := by
        have h1 := HN.out.nat q hq (.lit (.int .i64 0))
        rw [hqk, hat] at h1
        simpa using h1.symm
      have HB1 := hid_intro (HB.out.grown hgr HB.out.size (fun k e => by cases e; exact Nat.le_refl _))
      have HRG1 := hid_intro hrg'
      have hms := hrg'.left_eq
      have HQ : Hid (nOk c = false → ovB L = false) := hid_intro (fun h => ov_false hq (by rw [hqn]; exact h))
      have HL2 : Hid (nOk c = true → ∀ y ∈ L, (left (kS y.i) && !(kS y.i).sameKey kl) = false → nOk y.n = true) := hid_intro (fun h y hy h2 => by
        cases h3 : left (kS y.i)
        · exact HLf.out y hy h3
        · rw [h3] at h2
          simp only [Bool.true_and, Bool.not_eq_false'] at h2
          have e := WideAt.sameKey_eq h2
          have h4 := HN.out.nat y hy (.lit (.int .i64 0))
          rw [e, hat] at h4
          have h5 : c = y.n := by simpa using h4
          rw [← h5]; exact h)
      clear hkey hlk hv hat hrg' hgr hqk hqn hq hx' hkl HRG HLf HB
      have HC := hid_intro (fun w => inum c w)
      generalize nOk c = r at *
      cases r
      · have HE := hid_intro (HQ.out rfl)
        go_wp2_with (go_at_call 193; refine (HC.out _).mono ?_; rintro e w2 ⟨rfl, rfl⟩)
        go_ret
        exact ⟨by rw [HE.out]; rfl, HB1.out⟩
      · have HE := hid_intro (HL2.out rfl)
        go_wp2_with (go_at_call 193; refine (HC.out _).mono ?_; rintro e w2 ⟨rfl, rfl⟩)
        go_roundw
        case rel => exact ⟨_, _, rfl, HRG1.out, HE, HB1⟩
        case measure => rw [hms, hmeas]; exact hlt
/-- A row of Meters. -/
def icell (y : N) : List Value := [.string y.i]
theorem icells (L : List N) : (L.map (fun y => y.i.data.toList)).map encStr = cellsAll icell L := by
  induction L with
  | nil => rfl
  | cons y l ih =>
    simp only [List.map_cons, cellsAll, List.flatMap_cons, icell] at *
    rw [ih]
    simp [encStr]
theorem nil_row (w : World) (e : TypeId) : w.ownsRow w.heap.size e 2 (.slice none 0 0) ([] : List N).length (cellsAll N.cells []) := World.ownsRow_nil _ _ _ _
theorem omap_below {P : Program} {k : TypeId} {R : Value → Option (DataW Value × List MemPlace)} {w w' : World} {b n : Nat} {D : DataW Value} (h : w.ownsMap P k R b n D) (hb : Below w.heap.size w w') : w'.ownsMap P k R b n D :=
  h.kept (row := none) ⟨hb.os, hb.tape, hb.output, hb.size, fun k hk _ => hb.block k hk⟩ (by simp)
set_option maxRecDepth 100000 in
set_option maxHeartbeats 4000000 in
theorem lines_any (b M : Nat) (D : DataW Value) (L : List N) (w : World) (hO : w.ownsMap Tryz.prog 9 (plainElem (H := Value) Tryz.prog 2) b M D) (hM : M ≤ 1048576) (hN : NetM D L) (hlen : L.length ≤ 1048575) (hS : ∀ y ∈ L, y.i.size ≤ 1048576) :
    Calls Tryz.prog 85 #[.map (some b)] w fun e w' => ∃ v, e = .returned v ∧ w'.ownsRow w.heap.size 72 2 v (L.filter nz).length (cellsAll N.cells (L.filter nz)) ∧ Below w.heap.size w w' := by
  obtain ⟨i0, hi, hz0, hz1, hz2⟩ := info_parts infoN
  have hsl := hO.size_le
  have HSK := hid_intro (callsIn_wide.1 (Tryz.slices_Sorted_keys_143_144 b M D (plainElem (H := Value) Tryz.prog 2) w hO (by unfold maxLen; omega) (by omega)))
  have HSO : Hid (∀ ss : List (List UInt8), ss.Perm (strKeys D) → ss.mergeSort (fun x y => decide (x ≤ y)) = L.map (fun y => y.i.data.toList)) := hid_intro (fun ss h => hN.sorted Tryz.underlying9 hO h)
  have HO := hid_intro hO
  have HN := hid_intro hN
  have HS := hid_intro hS
  have HKY := hid_intro (Tryz.keys_any (some b) w)
  obtain ⟨len, hl⟩ : ∃ len, len = L.length := ⟨_, rfl⟩
  rw [← hl] at hlen
  have HL := hid_intro hl
  clear hO hN hS hl hsl
  go_enter Tryz.func85, Tryz.ntmps85
  go_wp2_with fail
  refine HKY.out.mono ?_
  rintro e w1 ⟨rfl, rfl⟩
  go_wp2_with fail
  refine HSK.out.mono ?_
  rintro e w2 ⟨v0, ss, rfl, hss, hrow, hnil, hb2⟩
  have HB2 : Hid (Below w.heap.size w w2) := hid_intro (((Below.refl _ w).alloc (Nat.le_refl _) _).trans (hb2.mono (by simp)))
  have hsl2 : ss.length = L.length := by
    have h1 := congrArg List.length (HSO.out ss hss)
    simpa using h1
  rw [HSO.out ss hss, icells, hsl2] at hrow
  obtain ⟨ao, cap, rfl, hm⟩ := own_made (k := 1) (z := N.zero) (cells := icell) (fun _ => rfl) hrow
  have HM0 := hid_intro hm.rws
  have HB20 : Hid (∀ W, Below w2.heap.size w2 W → Rws 1 icell N.zero ao L W) := hid_intro (fun W h => Rws.below HM0.out h)
  rw [← HL.out]
  clear hrow hnil hss hsl2 hm hb2 HM0 HSK HSO HKY
  go_wp2_with fail
  go_loopw [3, 10] (fun v z wr => ∃ k : Nat, k ≤ len ∧ z = .int .i64 k ∧ Hid (wr.ownsRow w2.heap.size 72 2 v k (cellsAll N.cells (L.take k))) ∧ Hid (Below w2.heap.size w2 wr)) (fun v z _ => len - (intOf z).toNat)
  case atStart => exact ⟨0, by omega, rfl, hid_intro (World.ownsRow_nil _ _ _ _), hid_intro (Below.refl _ _)⟩
  case round =>
    obtain ⟨k, hk, rfl, HR, HBw⟩ := hrel
    have HB := hid_intro (HB2.out.trans (HBw.out.mono HB2.out.size))
    by_cases hlt : k < len
    · have hlt2 : (k : Int) < (len : Int) := by omega
      have hkl : k < L.length := by have := HL.out; omega
      obtain ⟨b0, off, rfl, hbl, ca⟩ := (HB20.out wr HBw.out).at k hkl
      have c0 : wr.cell? ⟨b0, off + k, none⟩ = some (.string (L.getD k N.zero).i) := by have := ca 0 (by omega); rw [Nat.mul_one, Nat.add_zero] at this; exact this
      have hmem := getD_mem (z := N.zero) L k hkl
      have hsz := HS.out _ hmem
      have HT := hid_intro (take_more (z := N.zero) L k hkl)
      have HLK : Hid (D.atKey (kS (L.getD k N.zero).i) (.lit (.int .i64 0)) = .lit (.int .i64 (L.getD k N.zero).n)) := hid_intro (HN.out.nat _ hmem _)
      generalize L.getD k N.zero = X at *
      obtain ⟨xi, xn⟩ := X
      dsimp only at c0 hsz HLK
      have HK := hid_intro (Go.WideMaps.keyOf_string_mk (P := Tryz.prog) (k := 9) Tryz.underlying9 (s := xi) (Nat.le_trans hsz (by unfold maxLen; omega)))
      have HKE : Hid (kS xi = .string xi.data.toList) := rfl
      have HOl := hid_intro (omap_below HO.out HB.out)
      rw [← HKE.out] at HK
      generalize kS xi = K0 at *
      have sz1 : k + 1 ≤ maxLen := by unfold maxLen; omega
      have sz2 : (k + 1) * 24 ≤ 140737488355328 := by omega
      have sz5 := HBw.out.size
      clear HKE ca hmem
      go_wp2_with (first | (at_lookup; refine wpList_lookup_own_int _ rfl _ _ 137 rfl 9 2 .i64 keyedS Tryz.underlying137 Tryz.underlying2 (zeroI _) b M D rfl HOl.out _ _ rfl HK.out ?_; intro c hat hwc; obtain rfl : xn = c := (by have h := HLK.out.symm.trans hat; simpa using h); clear hat hwc) | (at_builtin; refine wpList_append_own _ rfl _ _ 33 rfl w2.heap.size 72 i0 (.agg #[.string ⟨#[]⟩, .int .i64 0]) 2 24 Tryz.underlying33 hi hz0 hz1 hz2 rfl (by decide) _ _ _ rfl (HR.out.alloc _) ⟨wr.heap.size, 0, none⟩ 1 1 (N.cells ⟨xi, xn⟩) rfl rfl (two_cells _ _ _ _) (two_one _) sz1 sz2 (by simp; omega) ?_; intro v' w4 hown hgrow hne))
      have HR4 : Hid (w4.ownsRow w2.heap.size 72 2 v' (k + 1) (cellsAll N.cells (L.take (k + 1)))) := hid_intro (by rw [HT.out, cellsAll_app]; exact hown)
      have HOB := hid_intro (fun c hc => (HR.out.lt c hc).1)
      have HB4 : Hid (Below w2.heap.size w2 w4) := hid_intro ((HBw.out.alloc HBw.out.size _).grown hgrow (HBw.out.alloc HBw.out.size _).size (fun c e => HOB.out c e))
      clear hown hgrow hne HOB
      go_wp2_with fail
      go_roundw
      case rel => exact ⟨k + 1, by omega, by go_num, HR4, HB4⟩
      case measure => simp [intOf]; omega
    · have hlt2 : ¬ (k : Int) < (len : Int) := by omega
      obtain rfl : k = len := by omega
      have HT : Hid (L.take k = L) := hid_intro (List.take_of_length_le (by have := HL.out; omega))
      rw [HT.out] at HR
      obtain ⟨bo, cap', rfl, hm⟩ := own_made (z := N.zero) N.len (by rw [← HL.out]; exact HR.out)
      have HM := hid_intro hm.rws
      have HPT := hid_intro (put_any bo cap' L wr (by have := HL.out; omega) HS.out hm.rws)
      rw [← HL.out] at HPT ⊢
      clear hm
      go_wp2_with fail
      refine HPT.out.mono ?_
      rintro e w5 ⟨v, rfl, ho, hb5⟩
      have HO5 := hid_intro (own_low ho HB.out.size)
      have HB5 := hid_intro (HB.out.trans (hb5.mono HB.out.size))
      clear ho hb5
      go_wp2_with fail
      go_ret
      exact ⟨_, rfl, HO5.out, HB5.out⟩
set_option maxRecDepth 100000 in
set_option maxHeartbeats 4000000 in
theorem lines_nil (w : World) :
    Calls Tryz.prog 85 #[.map none] w fun e w' => ∃ v, e = .returned v ∧ w'.ownsRow w.heap.size 72 2 v ([] : List N).length (cellsAll N.cells []) ∧ Below w.heap.size w w' := by
  have HSK := hid_intro (callsIn_wide.1 (Tryz.slices_Sorted_keys_nil_143_144 w))
  have HKY := hid_intro (Tryz.keys_any none w)
  go_enter Tryz.func85, Tryz.ntmps85
  go_wp2_with fail
  refine HKY.out.mono ?_
  rintro e w1 ⟨rfl, rfl⟩
  go_wp2_with fail
  refine HSK.out.mono ?_
  rintro e w2 ⟨v0, ss, rfl, hss, hrow, hnil, hb2⟩
  obtain rfl : v0 = .slice none 0 0 := hnil.2 hss
  have HB2 : Hid (Below w.heap.size w w2) := hid_intro (((Below.refl _ w).alloc (Nat.le_refl _) _).trans (hb2.mono (by simp)))
  clear hrow hnil hss hb2 HSK HKY
  go_wp2_with fail
  go_loopw [3, 10] (fun v z wr => v = .slice none 0 0 ∧ z = .int .i64 0 ∧ Hid (Below w.heap.size w wr)) (fun v z _ => 0)
  case atStart => exact ⟨rfl, rfl, HB2⟩
  case round =>
    obtain ⟨rfl, rfl, HB⟩ := hrel
    have HPT := hid_intro (put_any none 0 [] wr (by simp) (fun e he => by cases he) (.inl rfl))
    go_wp2_with fail
    refine HPT.out.mono ?_
    rintro e w5 ⟨v, rfl, ho, hb5⟩
    have HO5 := hid_intro (own_low ho HB.out.size)
    have HB5 := hid_intro (HB.out.trans (hb5.mono HB.out.size))
    clear ho hb5
    go_wp2_with fail
    go_ret
    exact ⟨_, rfl, HO5.out, HB5.out⟩
end NetR
end Go.Proofs.YtjfmdcdclifpkaaGreatDoor
namespace Go.Proofs.YtjfmdcdclifpkaaGreatDoor
open Go.ChangeShapes Go.WideShapes Go.ChangeAt Go.RowKit Go.Deep
set_option linter.unusedVariables false
namespace LinR
/-- A slice of lines that came in. -/
def IsLis (w : World) (a : Option Addr) (es : List N) : Prop := es.length ≤ maxLen ∧ Lis a es w ∧ ∀ e ∈ es, e.i.size ≤ maxLen
section
variable {H : Type} {enc : TypeId × Value → H} {P : Program} {w : World} {base : Nat} {spare : Nat → Bool} {held : Bool}
theorem list2 {α : Type} {cs : List α} (h : cs.length = 2) : ∃ c0 c1, cs = [c0, c1] := by
  match cs, h with
  | [c0, c1], _ => exact ⟨c0, c1, rfl⟩
theorem line_cells {t : TypeId} {f0 f1 : Field} {fuel : Nat} {cs : List Value} {x : DataW H × List MemPlace} (hs : P.underlying t = some (.struct #[f0, f1])) (hone : oneCellFields P #[f0, f1] = true) (hC : P.cellsOf t = 2)
    (u0 : P.underlying f0.type = some .string) (u1 : P.underlying f1.type = some (.int .i64))
    (h : DataW.trod enc P w base spare held fuel t cs = some x) :
    ∃ (i : ByteArray) (n : Int), cs = [.string i, .int .i64 n] ∧ i.size ≤ maxLen := by
  obtain ⟨xs, n, _, _, hl, hlen, hf⟩ := DataW.trod_struct hs h
  obtain ⟨c0, c1, rfl⟩ := list2 (hl.trans hC)
  obtain ⟨y0, y1, rfl⟩ := list2 (show xs.length = 2 from hlen)
  obtain ⟨o0, k0⟩ := hone_of hone 0 f0 rfl
  obtain ⟨o1, k1⟩ := hone_of hone 1 f1 rfl
  have h0 := hf 0 f0 rfl
  have h1 := hf 1 f1 rfl
  simp [o0, k0] at h0
  simp [o1, k1] at h1
  obtain ⟨i, e0, _, s0⟩ := DataW.trod_string u0 h0
  obtain ⟨p, e1, _, s1⟩ := DataW.trod_int u1 h1
  simp only [List.cons.injEq, and_true] at e0 e1
  subst e0 e1
  exact ⟨i, p, rfl, s0⟩
theorem cells_at {a : Addr} {cs : List Value} {n : Nat} (h : w.cells? base a n = some cs) (j : Nat) (hj : j < n) : w.cell? (a.add j) = cs[j]? := by
  obtain ⟨_, h1, h2⟩ := World.cells?_some h
  exact h2 j hj
theorem lis_open {t e : TypeId} {f0 f1 : Field} {fuel : Nat} {ao : Option Addr} {len cap : Nat} {x : DataW H × List MemPlace} (ht : P.underlying t = some (.slice e)) (hs : P.underlying e = some (.struct #[f0, f1])) (hone : oneCellFields P #[f0, f1] = true) (hC : P.cellsOf e = 2)
    (u0 : P.underlying f0.type = some .string) (u1 : P.underlying f1.type = some (.int .i64))
    (h : DataW.trod enc P w base spare held fuel t [.slice ao len cap] = some x) : ∃ es, es.length = len ∧ IsLis w ao es := by
  rcases DataW.trod_slice ht h with ⟨hcs, _⟩ | ⟨a, len', cap', elems, rest, n, _, hcs, _, hb, hl, hm, hlen, hel, _, _⟩
  · simp only [List.cons.injEq, Value.slice.injEq, and_true] at hcs
    obtain ⟨rfl, rfl, rfl⟩ := hcs
    exact ⟨[], rfl, Nat.zero_le _, .inl rfl, fun e he => by cases he⟩
  · simp only [List.cons.injEq, Value.slice.injEq, and_true] at hcs
    obtain ⟨rfl, rfl, rfl⟩ := hcs
    have key : ∀ i, i < len → ∃ E1 : N, E1.i.size ≤ maxLen ∧ w.cells? base (a.add (i * 2)) 2 = some E1.cells := by
      intro i hi
      have h1 := hel i hi
      rw [hC, List.getElem?_eq_getElem (by omega)] at h1
      cases hc : w.cells? base (a.add (i * 2)) 2 with
      | none => rw [hc] at h1; simp at h1
      | some cs =>
        rw [hc] at h1
        simp only [Option.bind_some] at h1
        obtain ⟨i', n', rfl, q0⟩ := line_cells hs hone hC u0 u1 h1
        exact ⟨⟨i', n'⟩, q0, rfl⟩
    have : ∃ f : Nat → N, ∀ i, i < len → (f i).i.size ≤ maxLen ∧ w.cells? base (a.add (i * 2)) 2 = some (f i).cells := by
      refine ⟨fun i => if hi : i < len then Classical.choose (key i hi) else N.zero, fun i hi => ?_⟩
      simp only [hi, dif_pos]
      exact Classical.choose_spec (key i hi)
    obtain ⟨f, hf⟩ := this
    refine ⟨(List.range len).map f, by simp, by simp; omega, ?_, fun e he => ?_⟩
    · by_cases h0 : len = 0
      · exact .inl (by simpa using h0)
      · obtain ⟨b, off, spot⟩ := a
        have hc0 := cells_at (hf 0 (by omega)).2 0 (by omega)
        have hspot : spot = none := by
          have : w.cell? ⟨b, off, spot⟩ = some (.string (f 0).i) := by simpa [Addr.add, N.cells] using hc0
          exact World.cell?_spot this
        subst hspot
        refine .inr ⟨b, off, rfl, ?_, fun j hj => ?_⟩
        · have : w.cell? ⟨b, off, none⟩ = some (.string (f 0).i) := by simpa [Addr.add, N.cells] using hc0
          exact World.block_lt_of_cell? w _ this
        · have hj : j < len := by simpa using hj
          have e : ((List.range len).map f).getD j N.zero = f j := by simp [List.getD, hj]
          rw [e]
          have g := fun k (hk : k < 2) => cells_at (hf j hj).2 k hk
          have ad : ∀ k, ((⟨b, off, none⟩ : Addr).add (j * 2)).add k = ⟨b, off + j * 2 + k, none⟩ := by
            intro k
            unfold Addr.add
            split <;> split <;> simp_all
          simp only [ad] at g
          exact fun i hi => g i hi
    · simp only [List.mem_map, List.mem_range] at he
      obtain ⟨i, hi, rfl⟩ := he
      exact (hf i hi).1
end
end LinR
end Go.Proofs.YtjfmdcdclifpkaaGreatDoor
namespace Go.Proofs.YtjfmdcdclifpkaaGreatDoor
open Go.RowKit
namespace LinR
open RowG
theorem szL_mem {es : List N} {e : N} (h : e ∈ es) : (e.i.size : Int) ≤ szL es := by
  induction es with
  | nil => cases h
  | cons x es ih =>
    have hn := szL_nn es
    have hx : szL (x :: es) = (x.i.size : Int) + szL es := by simp [szL]
    rcases List.mem_cons.1 h with rfl | h
    · omega
    · have := ih h; omega
theorem sz_small {es : List N} (h : ¬ szR es < 0) : es.length ≤ 1048576 ∧ (∀ e ∈ es, e.i.size ≤ 1048576) ∧ 0 ≤ szR es ∧ szR es ≤ 1048576 := by
  unfold szR at *
  have hn := szL_nn es
  by_cases q : (es.length : Int) + szL es ≤ 1048576
  · rw [if_pos q]
    exact ⟨by omega, fun e he => by have := szL_mem he; omega, by omega, by omega⟩
  · rw [if_neg q] at h
    exact absurd (by omega) h
end LinR
end Go.Proofs.YtjfmdcdclifpkaaGreatDoor
namespace Go.Proofs.YtjfmdcdclifpkaaGreatDoor
open Go.ChangeShapes Go.WideShapes Go.ChangeAt Go.RowKit
set_option linter.unusedVariables false
namespace NetR
open LinR RowG LtR
/-- What is left of lines, none if one runs beyond. -/
def clL (L : List N) : List N := bif ovB L then L.filter nz else []
theorem all_take {L : List N} {k : Nat} (h : k < L.length) : (L.take (k + 1)).all (fun y => nOk y.n) = ((L.take k).all (fun y => nOk y.n) && nOk (L.getD k N.zero).n) := by
  rw [take_more (z := N.zero) L k h, List.all_append]
  simp
set_option maxRecDepth 100000 in
set_option maxHeartbeats 4000000 in
theorem sclean (ao : Option Addr) (cap : Nat) (L : List N) (w : World) (hlen : L.length ≤ 1048575) (hI : Lis ao L w) :
    Calls Tryz.prog 70 #[.slice ao L.length cap] w fun e w' => ∃ v, e = .returned (.tuple #[v, .bool (ovB L)]) ∧ OwnN w' w.heap.size v (clL L) ∧ Below w.heap.size w w' := by
  obtain ⟨i0, hi, hz0, hz1, hz2⟩ := info_parts infoN
  have HI := hid_intro hI
  obtain ⟨len, hl⟩ : ∃ len, len = L.length := ⟨_, rfl⟩
  rw [← hl] at hlen ⊢
  have HL := hid_intro hl
  have HSN := hid_intro (fun n w => snum n w)
  have HE := hid_intro (own_empty w w.heap.size 72 2 (Nat.le_refl _))
  clear hI hl
  go_enter Tryz.func70, Tryz.ntmps70
  go_wp2_with fail
  go_loopw [4, 5] (fun v z wr => ∃ k : Nat, k ≤ len ∧ z = .int .i64 k ∧ Hid (OwnN wr w.heap.size v ((L.take k).filter nz)) ∧ Hid ((L.take k).all (fun y => nOk y.n) = true) ∧ Hid (Below w.heap.size w wr)) (fun v z _ => len - (intOf z).toNat)
  case atStart => exact ⟨0, by omega, rfl, hid_intro ⟨HE.out, fun e => by cases e⟩, hid_intro rfl, hid_intro (al _ _)⟩
  case round =>
    obtain ⟨k, hk, rfl, HO, HA, HB⟩ := hrel
    by_cases hlt : k < len
    · have hlt2 : (k : Int) < (len : Int) := by omega
      have hkl : k < L.length := by have := HL.out; omega
      obtain ⟨b, off, rfl, hbl, c0, c1⟩ := (HI.out.below HB.out).at k hkl
      have HF := hid_intro (filter_more nz L k hkl)
      have HA2 := hid_intro (all_take hkl)
      have HLF : Hid (((L.take k).filter nz).length ≤ 1048575) := hid_intro (by
        have h1 := List.length_filter_le nz (L.take k)
        have h2 := (List.take_sublist k L).length_le
        have := HL.out
        omega)
      have HMEM := hid_intro (getD_mem (z := N.zero) L k hkl)
      obtain ⟨F, hF⟩ : ∃ F, F = (L.take k).filter nz := ⟨_, rfl⟩
      rw [← hF] at HO HF HLF
      clear hF
      generalize L.getD k N.zero = X at *
      obtain ⟨xi, xn⟩ := X
      dsimp only at c0 c1 HA2
      have HC := hid_intro (fun w => snum xn w)
      have HOV : Hid (nOk xn = false → ovB L = false) := hid_intro (fun h => ov_false HMEM.out h)
      generalize nOk xn = r at *
      cases r
      · have HE2 := hid_intro (HOV.out rfl)
        have HBz := hid_intro (HB.out.alloc HB.out.size (.cells #[] 72))
        have HOz := hid_intro (own_empty wr w.heap.size 72 2 HB.out.size)
        have HPz : Hid (∀ W, W.ownsRow w.heap.size 72 2 (.slice (some ⟨wr.heap.size, 0, none⟩) 0 0) 0 [] → OwnN W w.heap.size (.slice (some ⟨wr.heap.size, 0, none⟩) 0 0) (clL L)) := hid_intro (fun W h => by
          unfold clL
          rw [HE2.out, cond_false]
          exact ⟨h, fun e => by cases e⟩)
        go_wp2_with (go_at_call 122; refine (HC.out _).mono ?_; rintro e w2 ⟨rfl, rfl⟩)
        go_ret2
        exact ⟨_, by rw [HE2.out]; rfl, HPz.out _ HOz.out, HBz.out⟩
      · have HA3 : Hid ((L.take (k + 1)).all (fun y => nOk y.n) = true) := hid_intro (by rw [HA2.out, HA.out]; rfl)
        rcases nz_cases xi xn with ⟨q1, q2, q3⟩ | ⟨q1, q2, q3⟩
        · rw [q3, cond_false, List.append_nil] at HF
          go_wp2_with (go_at_call 122; refine (HC.out _).mono ?_; rintro e w2 ⟨rfl, rfl⟩)
          go_roundw
          case rel => exact ⟨k + 1, by omega, by go_num, hid_intro (by rw [HF.out]; exact HO.out), HA3, HB⟩
          case measure => simp [intOf]; omega
        · rw [q3, cond_true] at HF
          go_wp2_with (first | (go_at_call 122; refine (HC.out _).mono ?_; rintro e w2 ⟨rfl, rfl⟩) | (at_builtin; refine wpList_append_own _ rfl _ _ 33 rfl w.heap.size 72 i0 (.agg #[.string ⟨#[]⟩, .int .i64 0]) 2 24 Tryz.underlying33 hi hz0 hz1 hz2 rfl (by decide) _ _ _ rfl (HO.out.1.alloc _) ⟨_, 0, none⟩ 1 1 (N.cells ⟨xi, xn⟩) rfl rfl (two_cells _ _ _ _) (two_one _) ?d3 ?d4 ?d5 ?_))
          case d3 => unfold maxLen; have := HLF.out; omega
          case d4 => have := HLF.out; omega
          case d5 => have h1 := HB.out.size; simp; omega
          intro v' w4 hown hgrow hne
          have HO4 : Hid (OwnN w4 w.heap.size v' (F ++ [(⟨xi, xn⟩ : N)])) := hid_intro (own_nonnil (by rw [cellsAll_app, List.length_append]; exact hown) (by simp))
          have HOB := hid_intro (fun c hc => (HO.out.1.lt c hc).1)
          have HB4 : Hid (Below w.heap.size w w4) := hid_intro ((HB.out.alloc HB.out.size _).grown hgrow (HB.out.alloc HB.out.size _).size (fun c e => HOB.out c e))
          clear hown hgrow hne
          go_wp2_with fail
          go_roundw
          case rel => exact ⟨k + 1, by omega, by go_num, hid_intro (by rw [HF.out]; exact HO4.out), HA3, HB4⟩
          case measure => simp [intOf]; omega
    · have hlt2 : ¬ (k : Int) < (len : Int) := by omega
      obtain rfl : k = len := by omega
      have HT : Hid (L.take k = L) := hid_intro (List.take_of_length_le (by have := HL.out; omega))
      rw [HT.out] at HO HA
      have HE2 : Hid (ovB L = true) := HA
      have HP : Hid (∀ W v, OwnN W w.heap.size v (L.filter nz) → OwnN W w.heap.size v (clL L)) := hid_intro (fun W v h => by unfold clL; rw [HE2.out, cond_true]; exact h)
      go_wp2_with fail
      go_ret2
      exact ⟨_, by rw [HE2.out]; rfl, HP.out _ _ HO.out, HB.out⟩
/-- What right lines are, by hand. -/
theorem right_rise {es : List N} (h : SRight es) : Rise es := by
  unfold Rise
  rw [List.pairwise_iff_getElem]
  have key : ∀ j, j < es.length → ∀ i, i < j → lt (es.getD i N.zero).i (es.getD j N.zero).i = true := by
    intro j
    induction j with
    | zero => intro _ i hi; omega
    | succ j ih =>
      intro hj i hi
      have h1 : lt (es.getD j N.zero).i (es.getD (j + 1) N.zero).i = true := (h.2 (j + 1) hj).1
      by_cases e : i = j
      · subst e; exact h1
      · exact lt_trans (ih (by omega) i (by omega)) h1
  intro i j hi hj hij
  have := key j hj i hij
  simpa [List.getD, hi, hj] using this
theorem right_bd {es : List N} (h : SRight es) : ∀ e ∈ es, -1000000000000000 ≤ e.n ∧ e.n ≤ 1000000000000000 := by
  intro e he
  obtain ⟨i, hi, rfl⟩ := List.getElem_of_mem he
  have h1 := (h.2 i hi).2
  unfold lOk nOk at h1
  simp only [Bool.and_eq_true, decide_eq_true_eq] at h1
  have e2 : es.getD i N.zero = es[i] := by simp [List.getD, hi]
  rw [e2] at h1
  exact h1.2.1
/-- Both answers. -/
def lessL (a b : List N) : List N := clL (all a b (-1))
def lessB (a b : List N) : List N := bif sB a && sB b then lessL a b else []
theorem less_len {a b : List N} : (lessB a b).length ≤ 12 := by
  unfold lessB
  cases ha : sB a
  · simp
  · cases hb : sB b
    · simp
    · have h1 := (sB_iff.1 ha).1
      have h2 := (sB_iff.1 hb).1
      have h3 := all_len a b (-1)
      simp only [Bool.and_self, cond_true, lessL, clL]
      cases ovB (all a b (-1))
      · simp
      · have h4 := List.length_filter_le nz (all a b (-1))
        simp only [cond_true]
        omega
theorem res_ownN {w w' : World} {l : List N} {v : Value} (h : OwnN w' w.heap.size v l) (hb : Below w.heap.size w w') : ∃ ao cap, v = .slice ao l.length cap ∧ MadeG 2 N.cells N.zero w.heap.size ao l w' ∧ Below w.heap.size w w' := by
  obtain ⟨ao, cap, e, hm⟩ := own_made (z := N.zero) N.len h.1
  exact ⟨ao, cap, e, hm, hb⟩
/-- What is handed back. -/
def ResL (w : World) (l : List N) (e : Ending) (w' : World) : Prop := ∃ ao cap, e = .returned (.slice ao l.length cap) ∧ MadeG 2 N.cells N.zero w.heap.size ao l w' ∧ Below w.heap.size w w'
theorem resL_own {w w' : World} {l : List N} {v : Value} (h : w'.ownsRow w.heap.size 72 2 v l.length (cellsAll N.cells l)) (hb : Below w.heap.size w w') : ResL w l (.returned v) w' := by
  obtain ⟨ao, cap, rfl, hm⟩ := own_made (z := N.zero) N.len h
  exact ⟨ao, cap, rfl, hm, hb⟩
theorem resL_nil {w w' : World} (hb : Below w.heap.size w w') (ao : Option Addr) (cap : Nat) : ResL w [] (.returned (.slice ao 0 cap)) w' := ⟨ao, cap, rfl, made_nil _ _ _, hb⟩
end NetR
end Go.Proofs.YtjfmdcdclifpkaaGreatDoor
