/-
  Entries that are kept, laid in new memory. The conditions: at most 1048576 entries, whose Ids have at most 1048576 bytes; what tells which are kept tells it in every world that has grown.
-/
import Derived.Test.YtnceeaccbcfopaaGreatDoorT92
namespace Go.Proofs.YtnceeaccbcfopaaGreatDoor
open Go.ChangeShapes Go.WideShapes Go.ChangeAt Go.RowKit
set_option linter.unusedVariables false
namespace SeenR
open RowG
set_option maxRecDepth 100000 in
set_option maxHeartbeats 4000000 in
theorem keep_any (ao:Option Addr) (cap:Nat) (es:List N) (p:N→Bool) (g:Nat) (bs:Array Value) (w:World) (hlen:es.length≤40) (hS:∀e∈es,e.i.size≤1048576) (hI:Ens ao es w)
 (hp:∀(x:N) W,Below w.heap.size w W→Calls Tryz.prog g (#[.agg #[.string x.i,.int .i64 x.n,.int .i64 x.s]]++bs) W fun e w'=>e=.returned (.bool (p x))∧Below W.heap.size W w') (he:∀args w,(callFunc g args).run Tryz.prog w=.ok (.enter g args) w) :
 Calls Tryz.prog 134 #[.slice ao es.length cap,.func (.func g) #[] bs] w fun e w'=>∃v,e=.returned v∧w'.ownsRow w.heap.size 110 3 v (es.filter p).length (cellsAll N.cells (es.filter p))∧Below w.heap.size w w':=by
 obtain ⟨i0,hi,hz0,hz1,hz2⟩:=info_parts infoN
 have HI:=H_ hI
 have HP:=H_ hp
 have HS:=H_ hS
 obtain ⟨len,hl⟩:∃len,len=es.length:=⟨_,rfl⟩
 rw [←hl] at hlen ⊢
 have HL:=H_ hl
 clear hI hp hS hl
 go_enter Tryz.func134,Tryz.ntmps134
 go_wp2_with fail
 go_loopw [5,10] (fun v z wr=>∃k:Nat,k≤len∧z=.int .i64 k∧Hid (wr.ownsRow w.heap.size 110 3 v ((es.take k).filter p).length (cellsAll N.cells ((es.take k).filter p)))∧Hid (Below w.heap.size w wr)) (fun v z _=>len-(intOf z).toNat)
 case atStart=>exact ⟨0,by omega,rfl,H_ (World.ownsRow_nil _ _ _ _),H_ (Below.refl _ _)⟩
 case round =>
  obtain ⟨k,hk,rfl,HO,HB⟩:=hrel
  by_cases hlt:k<len
  ·have hlt2:(k:Int)<(len:Int):=by omega
   obtain ⟨b,off,rfl,hbl,c0,c1,c2⟩:=(HI.out.below HB.out).at k (by have:=HL.out;omega)
   have HTM:=H_ (take_more (z:=N.zero) es k (by have:=HL.out;omega))
   have hsz:=HS.out _ (getD_mem (z:=N.zero) es k (by have:=HL.out;omega))
   generalize es.getD k N.zero=X at *
   obtain ⟨xi,xn,xs⟩:=X
   have HC:=H_ (fun W hW=>HP.out ⟨xi,xn,xs⟩ W hW)
   dsimp only at HC c0 c1 c2 hsz
   have HF:Hid ((es.take (k+1)).filter p=(es.take k).filter p++(bif p ⟨xi,xn,xs⟩ then [⟨xi,xn,xs⟩] else [])):=H_ (by
    rw [HTM.out,List.filter_append]
    cases hr:p ⟨xi,xn,xs⟩<;>simp [hr])
   have HLF:Hid (((es.take k).filter p).length≤40):=H_ (by
    have h1:=List.length_filter_le p (es.take k)
    have h2:=List.length_take_le k es
    omega)
   obtain ⟨F,hF⟩:∃F,F=(es.take k).filter p:=⟨_,rfl⟩
   rw [←hF] at HO HF HLF
   clear hF HTM
   generalize p ⟨xi,xn,xs⟩=r at *
   have HA:Hid (Below w.heap.size w (wr.alloc (.cells #[.string xi,.int .i64 xn,.int .i64 xs] 110))):=H_ (HB.out.alloc HB.out.size _)
   go_wp2_with fail
   refine (HC.out _ HA.out).mono ?_
   rintro e w1 ⟨rfl,hb1⟩
   obtain ⟨hcc,hff⟩:=bcell hb1
   have hsz1:wr.heap.size<w1.heap.size:=by have:=hb1.size;simp at this;omega
   have e0:=hcc wr.heap.size 0 (by simp)
   have e1:=hcc wr.heap.size 1 (by simp)
   have e2:=hcc wr.heap.size 2 (by simp)
   have f0:=hff wr.heap.size 0 (by simp)
   simp [go_sem] at e0 e1 e2 f0
   have HB1:=H_ (HB.out.trans ((bel_alloc hb1).mono HB.out.size))
   have HO1:=H_ (own_below HO.out (bel_alloc hb1))
   clear hb1 hcc hff c0 c1 c2
   cases r
   ·go_wp2_with fail
    go_roundw
    case rel=>exact ⟨k+1,by omega,by go_num,H_ (by rw [HF.out,cond_false,List.append_nil];exact HO1.out),HB1⟩
    case measure=>simp [intOf];omega
   ·have HCL:=H_ (fun w=>CloneR.clone_any xi w (by omega))
    go_wp2_with fail
    refine (HCL.out _).mono ?_
    rintro e w2 ⟨rfl,hb2⟩
    obtain ⟨hcc,hff⟩:=bcell hb2
    have hsz2:wr.heap.size<w2.heap.size:=by have:=hb2.size;omega
    replace e0:=(hcc wr.heap.size 0 hsz1).trans e0
    replace e1:=(hcc wr.heap.size 1 hsz1).trans e1
    replace e2:=(hcc wr.heap.size 2 hsz1).trans e2
    replace f0:=(hff wr.heap.size 0 hsz1).trans f0
    have HB2:=H_ (HB1.out.trans (hb2.mono HB1.out.size))
    have hob:∀b,u5.ownBlock=some b→w.heap.size≤b∧b<wr.heap.size:=fun b hb=>HO.out.lt b hb
    have HO2:=H_ (own_set (own_below HO1.out hb2) wr.heap.size 0 (.string xi) (fun b hb=>by have:=(hob b hb).2;omega))
    have HB3:Hid (Below w.heap.size w (w2.setCell ⟨wr.heap.size,0,none⟩ (.string xi))):=H_ (HB2.out.setCell HB.out.size _)
    have HOB:=H_ hob
    clear hb2 hcc hff hob
    go_wp2_with (at_builtin;refine wpList_append_own _ rfl _ _ 38 rfl w.heap.size 110 i0 (.agg #[.string ⟨#[]⟩,.int .i64 0,.int .i64 0]) 3 32 Tryz.underlying38 hi hz0 hz1 hz2 rfl (by decide) _ _ _ rfl (HO2.out.alloc _) ⟨w2.heap.size,0,none⟩ 1 1 (N.cells ⟨xi,xn,xs⟩) rfl rfl ?d1 ?d2 ?d3 ?d4 ?d5 ?_)
    case d1 =>
     intro x u hx
     have hx2:x<3:=by
      have:=(List.getElem?_eq_some_iff.1 hx).1
      simpa [N.cells] using this
     match x,hx2,hx with
     | 0,_,hx=>simp [N.cells] at hx;subst hx;simp [Addr.add,go_sem]
     | 1,_,hx=>simp [N.cells] at hx;subst hx;simp [Addr.add,go_sem]
     | 2,_,hx=>simp [N.cells] at hx;subst hx;simp [Addr.add,go_sem]
    case d2 =>
     intro u hu
     simp only [N.cells,List.mem_cons,List.not_mem_nil,or_false] at hu
     rcases hu with rfl|rfl|rfl<;>rfl
    case d3=>unfold maxLen;have:=HLF.out;omega
    case d4=>have:=HLF.out;omega
    case d5=>have h1:=HB2.out.size;simp;omega
    intro v' w4 hown hgrow hne
    have HO4:Hid (w4.ownsRow w.heap.size 110 3 v' (F ++ [(⟨xi,xn,xs⟩:N)]).length (cellsAll N.cells (F ++ [(⟨xi,xn,xs⟩:N)]))):=H_ (by rw [cellsAll_app,List.length_append];exact hown)
    have HB4:Hid (Below w.heap.size w w4):=H_ ((HB3.out.alloc HB3.out.size _).grown hgrow (HB3.out.alloc HB3.out.size _).size (fun b e=>(HOB.out b e).1))
    clear hown hgrow hne
    go_wp2_with fail
    go_roundw
    case rel=>exact ⟨k+1,by omega,by go_num,H_ (by rw [HF.out,cond_true];exact HO4.out),HB4⟩
    case measure=>simp [intOf];omega
  ·have hlt2:¬(k:Int)<(len:Int):=by omega
   obtain rfl:k=len:=by omega
   have HE:Hid (es.take k=es):=H_ (List.take_of_length_le (by have:=HL.out;omega))
   rw [HE.out] at HO
   go_wp2_with fail
   go_ret
   exact ⟨_,rfl,HO.out,HB.out⟩
end SeenR
end Go.Proofs.YtnceeaccbcfopaaGreatDoor
