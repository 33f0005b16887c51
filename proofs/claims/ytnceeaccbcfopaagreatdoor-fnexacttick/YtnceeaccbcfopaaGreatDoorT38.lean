/-
  The law's own helpers over tiers and meters: their sizes, copies, and two held against each other. The condition: the tiers are at most 1048576.
-/
import Derived.OwnWalk
import Derived.Deep.RegionWith
import Derived.Test.YtnceeaccbcfopaaGreatDoorT37
namespace Go.Proofs.YtnceeaccbcfopaaGreatDoor
open Go.ChangeShapes Go.WideShapes Go.ChangeAt Go.RowKit
set_option linter.unusedVariables false
namespace CatR
open EvtR (Pt cell_put cell_far)
theorem infoT:(Tryz.prog.info? 248).map (fun i=>(i.zero,i.size,i.bytes))=some (some (.agg #[.int .i64 0,.int .i64 0]),2,16):=by kernel_rfl
theorem pt_row {w:World} {g m:Nat} {cs:List Value} {T:TypeId} (hh:w.heap[g]? = some (.cells cs.toArray T (0,0))) (hl:cs.length=m):Pt g m w where
 lt:=(Array.getElem?_eq_some_iff.1 hh).1
 has:=fun o ho=>⟨cs[o]'(by omega),by simp [World.cell?,hh,hl,ho]⟩
 free:=fun o ho=>by simp [World.frozen?,hh]
theorem row_full {w:World} {base e g n s:Nat} {xs:List Value} (h:w.ownsRow base e s (.slice (some ⟨g,0,none⟩) n n) n xs):Pt g (n*s) w:=by
 rcases h.2 with ⟨h1,_⟩|⟨g',cap,cur,h1,_,hg,_,_,hs,_⟩
 ·simp at h1
 ·simp at h1
  obtain ⟨rfl,rfl⟩:=h1
  exact pt_row (cs:=cur.toList) (by simpa using hg) (by simpa using hs)
theorem toTier_any (u p:Int) (w:World):Calls Tryz.prog 195 #[.agg #[.int .i64 u,.int .i64 p]] w fun e w'=>e=.returned (.agg #[.int .i64 u,.int .i64 p])∧Below w.heap.size w w':=by
 go_enter Tryz.func195,Tryz.ntmps195
 go_wp2_with fail
 refine bodyPost_ret (v:=.agg #[.int .i64 u,.int .i64 p]) (by simp [results,Tryz.results195,go_sem]) rfl ⟨rfl,?_⟩
 repeat' first|exact Below.refl _ _|apply Below.setCell|apply Below.alloc
 all_goals first|omega|(simp;done)|(simp;omega)
theorem tis_set {w wr:World} {g n k:Nat} {ts:List Ti} (hp:Pt g (n*2) wr) (hk:k<n) (ha:∀i,i<k→TiAt wr g (i*2) (ts.getD i Ti.zero)) :
 Pt g (n*2) ((wr.setCell ⟨g,k*2,none⟩ (.int .i64 (ts.getD k Ti.zero).u)).setCell ⟨g,k*2+1,none⟩ (.int .i64 (ts.getD k Ti.zero).p))∧∀i,i<k+1→TiAt ((wr.setCell ⟨g,k*2,none⟩ (.int .i64 (ts.getD k Ti.zero).u)).setCell ⟨g,k*2+1,none⟩ (.int .i64 (ts.getD k Ti.zero).p)) g (i*2) (ts.getD i Ti.zero):=by
 refine ⟨(hp.set _ _).set _ _,fun i hi=>?_⟩
 by_cases e:i=k
 ·subst e
  exact ⟨(cell_far _ _ (by omega) _).trans (cell_put hp _ (by omega) _),cell_put (hp.set _ _) _ (by omega) _⟩
 ·have h:=ha i (by omega)
  exact ⟨((cell_far _ _ (by omega) _).trans (cell_far _ _ (by omega) _)).trans h.1,((cell_far _ _ (by omega) _).trans (cell_far _ _ (by omega) _)).trans h.2⟩
set_option maxRecDepth 100000 in
set_option maxHeartbeats 4000000 in
theorem toTis_any (ao:Option Addr) (len cap:Nat) (ts:List Ti) (w:World) (hlen:len≤1048576) (hI:Tis ao len ts w) :
 Calls Tryz.prog 159 #[.slice ao len cap] w fun e w'=>e=.returned (.slice (some ⟨w.heap.size,0,none⟩) len len)∧Tis (some ⟨w.heap.size,0,none⟩) len ts w'∧Pt w.heap.size (len*2) w'∧Below w.heap.size w w':=by
 obtain ⟨i0,hi,hz0,hz1,hz2⟩:=info_parts infoT
 have HI:=H_ hI
 clear hI
 go_enter Tryz.func159,Tryz.ntmps159
 go_wp2_with (at_make;refine wpList_make_full _ rfl _ _ 148 rfl w.heap.size 248 i0 (.agg #[.int .i64 0,.int .i64 0]) 2 Tryz.underlying148 hi hz0 hz1 .i64 .i64 _ _ len rfl rfl rfl rfl ?b2 ?b3 ?b4 ?_)
 case b2=>rw [hz2];omega
 case b3=>unfold maxLen;omega
 case b4=>exact Nat.le_refl _
 intro wm hown hgrow
 have HP:=H_ (row_full hown)
 have HB:Hid (Below w.heap.size w wm):=H_ ((Below.refl _ _).grown hgrow (Nat.le_refl _) (fun k e=>by cases e))
 clear hown hgrow hi hz0 hz1 hz2
 go_wp2_with fail
 go_loopw [4] (fun z wr=>∃k:Nat,k≤len∧z=.int .i64 k∧Hid (Below w.heap.size w wr)∧Hid (Pt w.heap.size (len*2) wr)∧Hid (∀i,i<k→TiAt wr w.heap.size (i*2) (ts.getD i Ti.zero))) (fun z _=>len-(intOf z).toNat)
 case atStart=>exact ⟨0,by omega,rfl,HB,HP,H_ (fun i hi=>absurd hi (by omega))⟩
 case round =>
  obtain ⟨k,hk,rfl,HB,HP,HA⟩:=hrel
  by_cases hlt:k<len
  ·have hlt2:(k:Int)<(len:Int):=by omega
   obtain ⟨b,off,rfl,hbl,c0,c1⟩:=tis_at (HI.out.below HB.out) k hlt
   have HS:=H_ (fun W hp ha=>tis_set (w:=w) (wr:=W) (g:=w.heap.size) (n:=len) (k:=k) (ts:=ts) hp hlt ha)
   generalize (ts.getD k Ti.zero)=X at *
   obtain ⟨u,p⟩:=X
   have HC:=H_ (fun w=>toTier_any u p w)
   have HS:Hid (∀W,Pt w.heap.size (len*2) W→(∀i,i<k→TiAt W w.heap.size (i*2) (ts.getD i Ti.zero))→Pt w.heap.size (len*2) ((W.setCell ⟨w.heap.size,k*2,none⟩ (.int .i64 u)).setCell ⟨w.heap.size,k*2+1,none⟩ (.int .i64 p))∧∀i,i<k+1→TiAt ((W.setCell ⟨w.heap.size,k*2,none⟩ (.int .i64 u)).setCell ⟨w.heap.size,k*2+1,none⟩ (.int .i64 p)) w.heap.size (i*2) (ts.getD i Ti.zero)):=HS
   go_wp2_with fail
   refine (HC.out _).mono ?_
   rintro e w1 ⟨rfl,hb⟩
   have HP1:=H_ (HP.out.below hb)
   have HA1:Hid (∀i,i<k→TiAt w1 w.heap.size (i*2) (ts.getD i Ti.zero)):=H_ (fun i hi=>(HA.out i hi).below HP.out.lt hb)
   have HB1:=H_ (HB.out.trans (hb.mono HB.out.size))
   have HS1:=H_ (HS.out _ HP1.out HA1.out)
   obtain ⟨v0,d0⟩:=HP1.out.has (k*2) (by omega)
   obtain ⟨v1,d1⟩:=HP1.out.has (k*2+1) (by omega)
   have z0:=HP1.out.free (k*2) (by omega)
   have z1:=HP1.out.free (k*2+1) (by omega)
   clear hb c0 c1
   go_wp2_with fail
   go_roundw
   case rel=>exact ⟨k+1,by omega,by go_num,H_ ((HB1.out.setCell (Nat.le_refl _) _).setCell (Nat.le_refl _) _),H_ HS1.out.1,H_ HS1.out.2⟩
   case measure=>simp [intOf];omega
  ·have hlt2:¬(k:Int)<(len:Int):=by omega
   obtain rfl:k=len:=by omega
   go_wp2_with fail
   go_ret
   exact ⟨rfl,⟨HI.out.1,.inr ⟨w.heap.size,0,rfl,HP.out.lt,fun j hj=>by rw [Nat.zero_add];exact HA.out j hj⟩⟩,HP.out,HB.out⟩
end CatR
end Go.Proofs.YtnceeaccbcfopaaGreatDoor
