/-
  The program's nets: whether one runs beyond, and its lines. The conditions: at most 1048576 Meters of at most 1048576 bytes.
-/
import Derived.Test.YtnceeaccbcfopaaGreatDoorT116
namespace Go.Proofs.YtnceeaccbcfopaaGreatDoor
open Go.ChangeShapes Go.WideShapes Go.ChangeAt Go.RowKit
set_option linter.unusedVariables false
namespace NetR
open LinR RowG LtR
def ovE (r:Bool):Value:=if r then .nilIface else .iface 229 (.agg #[.int .i64 12])
theorem ov_false {L:List N} {y:N} (hy:y∈L) (h:nOk y.n=false):ovB L=false:=by
 unfold ovB
 cases hh:L.all (fun y=>nOk y.n)
 ·rfl
 ·rw [List.all_eq_true] at hh
  have:=hh y hy
  rw [h] at this
  cases this
set_option maxRecDepth 100000 in
set_option maxHeartbeats 4000000 in
theorem over_any (b M:Nat) (D:DataW Value) (L:List N) (w:World) (hO:w.ownsMap Tryz.prog 9 (plainElem (H:=Value) Tryz.prog 2) b M D) (hN:NetM D L) :
 Calls Tryz.prog 170 #[.map (some b)] w fun e w'=>e=.returned (ovE (ovB L))∧Below w.heap.size w w':=by
 have HO:=H_ hO
 have HN:=H_ hN
 have hblt:=hO.lt
 have HIN:=H_ (fun n w=>inum n w)
 clear hO hN
 go_enter Tryz.func170,Tryz.ntmps170
 go_wp2_with (at_range;refine wpList_range_own _ rfl _ 233 rfl 9 2 keyedS Tryz.underlying233 _ b M D rfl HO.out ?_;intro w0 hrg0 hg0 hs0)
 have HB0:Hid (Below w.heap.size w w0):=H_ ((Below.refl _ _).grown hg0 (Nat.le_refl _) (fun k e=>by cases e))
 clear hg0 hs0
 go_frame
 go_loopw [2] (fun v wr=>∃(left:Lit→Bool) (cnt:Nat),v=.nilIface∧wr.ranges Tryz.prog 9 (plainElem (H:=Value) Tryz.prog 2) b w.heap.size M D left cnt∧Hid (∀y∈L,left (kS y.i)=false→nOk y.n=true)∧Hid (Below w.heap.size w wr)) (fun _ wr=>wr.rangeLeft b w.heap.size)
 case atStart=>exact ⟨_,_,rfl,hrg0,H_ (fun y hy h=>by rw [(HN.out.has y.i).2 ⟨y,hy,rfl⟩] at h;cases h),HB0⟩
 case round =>
  obtain ⟨left,cnt,rfl,hrg,HLf,HB⟩:=hrel
  have HRG:=H_ hrg
  have hmeas:=hrg.left_eq
  clear hrg
  go_wp2_with (at_next;refine wpList_next_ranges _ rfl _ rfl 9 keyedS _ encStr (Value.int .i64) (fun key kl h=>by obtain ⟨x,hx,_⟩:=Maps.keyOf_str Tryz.underlying9 h;exact ⟨x,hx⟩) (fun v y h=>by obtain ⟨a,ha,_⟩:=plainElem_int_inv Tryz.underlying2 h;exact ⟨a,ha⟩) b w.heap.size M D left cnt rfl HRG.out ?_ ?_)
  ·intro hc0 hl0
   have HE:Hid (ovB L=true):=H_ (by unfold ovB;rw [List.all_eq_true];exact fun y hy=>HLf.out y hy (hl0 _))
   clear hl0
   go_wp2_with fail
   go_ret
   exact ⟨by rw [HE.out];rfl,HB.out⟩
  ·intro x c kl yd yp w' cnt' hkey hlk hv hat hrg' hlt hgr hsz hen
   obtain ⟨x',hx',hkl,_⟩:=Maps.keyOf_str Tryz.underlying9 hkey
   obtain ⟨a,ha,hy,_⟩:=plainElem_int_inv Tryz.underlying2 hv
   simp only [Value.int.injEq,true_and] at ha
   subst ha
   simp only [Prod.mk.injEq] at hy
   obtain ⟨rfl,_⟩:=hy
   obtain ⟨q,hq,hqk⟩:=HN.out.key ⟨x',hkl⟩ (Maps.has_true_of_atKey hat)
   have hqn:q.n=c:=by
    have h1:=HN.out.nat q hq (.lit (.int .i64 0))
    rw [hqk,hat] at h1
    simpa using h1.symm
   have HB1:=H_ (HB.out.grown hgr HB.out.size (fun k e=>by cases e;exact Nat.le_refl _))
   have HRG1:=H_ hrg'
   have hms:=hrg'.left_eq
   have HQ:Hid (nOk c=false→ovB L=false):=H_ (fun h=>ov_false hq (by rw [hqn];exact h))
   have HL2:Hid (nOk c=true→∀y∈L,(left (kS y.i) && !(kS y.i).sameKey kl)=false→nOk y.n=true):=H_ (fun h y hy h2=>by
    cases h3:left (kS y.i)
    ·exact HLf.out y hy h3
    ·rw [h3] at h2
     simp only [Bool.true_and,Bool.not_eq_false'] at h2
     have e:=WideAt.sameKey_eq h2
     have h4:=HN.out.nat y hy (.lit (.int .i64 0))
     rw [e,hat] at h4
     have h5:c=y.n:=by simpa using h4
     rw [←h5];exact h)
   clear hkey hlk hv hat hrg' hgr hqk hqn hq hx' hkl HRG HLf HB
   have HC:=H_ (fun w=>inum c w)
   generalize nOk c=r at *
   cases r
   ·have HE:=H_ (HQ.out rfl)
    go_wp2_with (go_at_call 200;refine (HC.out _).mono ?_;rintro e w2 ⟨rfl,rfl⟩)
    go_ret
    exact ⟨by rw [HE.out];rfl,HB1.out⟩
   ·have HE:=H_ (HL2.out rfl)
    go_wp2_with (go_at_call 200;refine (HC.out _).mono ?_;rintro e w2 ⟨rfl,rfl⟩)
    go_roundw
    case rel=>exact ⟨_,_,rfl,HRG1.out,HE,HB1⟩
    case measure=>rw [hms,hmeas];exact hlt
theorem omap_below {P:Program} {k:TypeId} {R:Value→Option (DataW Value × List MemPlace)} {w w':World} {b n:Nat} {D:DataW Value} (h:w.ownsMap P k R b n D) (hb:Below w.heap.size w w'):w'.ownsMap P k R b n D :=
 h.kept (row:=none) ⟨hb.os,hb.tape,hb.output,hb.size,fun k hk _=>hb.block k hk⟩ (by simp)
end NetR
end Go.Proofs.YtnceeaccbcfopaaGreatDoor
