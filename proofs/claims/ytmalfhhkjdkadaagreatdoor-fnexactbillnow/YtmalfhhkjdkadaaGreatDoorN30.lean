/-
  The program's windows of an account, by their meters. The conditions: sizes of at most 1048576.
  impl.BillOf. The conditions: sizes of at most 1048576; the program's variables hold what its text lays.
  The names that the model's bill goes by: each of an account's windows with its place, put among others by its meter. No condition.
-/
import Derived.Shelf.SlSortCmp.NoneTotal
import Derived.Test.YtmalfhhkjdkadaaGreatDoorN29
namespace Go.Proofs.YtmalfhhkjdkadaaGreatDoor
open Go.ChangeShapes Go.WideShapes Go.ChangeAt Go.RowKit
set_option linter.unusedVariables false
namespace BilR
open LtR WinR
open RowG (Rws cellsAll cellsAll_app own_below own_made getD_mem take_more)
open CatR (Blk Blk.new)
open EvtR (Pt)
def ownF (a:ByteArray) (p:WP):Bool:=p.d.a.toList==a.toList
theorem filter_moreW (q:WP→Bool) (xs:List WP) (k:Nat) (h:k<xs.length):(xs.take (k+1)).filter q=(xs.take k).filter q++(bif q (xs.getD k WP.zero) then [xs.getD k WP.zero] else []):=by
 rw [take_more (z:=WP.zero) xs k h,List.filter_append]
 generalize xs.getD k WP.zero=X
 cases hr:q X<;>simp [hr]
theorem infoW8:(Tryz.prog.info? 107).map (fun i=>(i.zero,i.size,i.bytes))=some (some (.agg #[.string ⟨#[]⟩,.string ⟨#[]⟩,.int .i64 0,.int .i64 0,.int .i64 0,.int .i64 0,.slice none 0 0,.slice none 0 0]),8,112):=by kernel_rfl
theorem rws_at {ao:Option Addr} {ps:List WP} {w:World} (h:Rws 8 WP.cells WP.zero ao ps w) (k:Nat) (hk:k<ps.length):∃b off,ao=some ⟨b,off,none⟩∧b<w.heap.size∧∀i,i<8→w.cell? ⟨b,off+k*8+i,none⟩=(ps.getD k WP.zero).cells[i]?:=by
 rcases h with h0|⟨b,off,e,hl,hc⟩
 ·omega
 ·exact ⟨b,off,e,hl,fun i hi=>hc k hk i hi⟩
set_option maxRecDepth 100000 in
set_option maxHeartbeats 4000000 in
theorem windows_of (ao:Option Addr) (cap:Nat) (ps:List WP) (a:ByteArray) (w:World) (hlen:ps.length≤1048576) (hI:Rws 8 WP.cells WP.zero ao ps w) :
 Calls Tryz.prog 129 #[.string a,.slice ao ps.length cap] w fun e w'=>∃bo cap' rs,e=.returned (.slice bo rs.length cap')∧rs.Perm (ps.filter (ownF a))∧rs.Pairwise (fun x y=>lt y.d.m x.d.m=false)∧Rws 8 WP.cells WP.zero bo rs w'∧Below w.heap.size w w':=by
 obtain ⟨i0,hi,hz0,hz1,hz2⟩:=info_parts infoW8
 have HI:=hid_intro hI
 obtain ⟨len,hl⟩:∃len,len=ps.length:=⟨_,rfl⟩
 rw [←hl] at hlen ⊢
 have HL:=hid_intro hl
 have HEND:Hid (ps.take len=ps):=hid_intro (List.take_of_length_le (by omega))
 clear hI hl
 go_enter Tryz.func129,Tryz.ntmps129
 go_wp2_with fail
 go_loopw [5,10] (fun v z wr=>∃k:Nat,k≤len∧z=.int .i64 k∧Hid (wr.ownsRow w.heap.size 107 8 v ((ps.take k).filter (ownF a)).length (cellsAll WP.cells ((ps.take k).filter (ownF a))))∧Hid (Below w.heap.size w wr)) (fun v z _=>len-(intOf z).toNat)
 case atStart=>exact ⟨0,by omega,rfl,hid_intro (World.ownsRow_nil _ _ _ _),hid_intro (Below.refl _ _)⟩
 case round =>
  obtain ⟨k,hk,rfl,HO,HB⟩:=hrel
  by_cases hlt:k<len
  ·have hlt2:(k:Int)<(len:Int):=by omega
   obtain ⟨b',off,rfl,hbl,hc⟩:=rws_at (HI.out.below HB.out) k (by have:=HL.out;omega)
   have HF:=hid_intro (filter_moreW (ownF a) ps k (by have:=HL.out;omega))
   have HLF:Hid (((ps.take k).filter (ownF a)).length≤1048576):=hid_intro (by
    have h1:=List.length_filter_le (ownF a) (ps.take k)
    have h2:=List.length_take_le k ps
    omega)
   obtain ⟨F,hF⟩:∃F,F=(ps.take k).filter (ownF a):=⟨_,rfl⟩
   rw [←hF] at HO HF HLF
   clear hF
   generalize ps.getD k WP.zero=X at *
   obtain ⟨⟨xa,xm,xo,xe,xs,xx,xt,xh⟩,ta,tc,ha,hc'⟩:=X
   have c0:=hc 0 (by omega)
   have c1:=hc 1 (by omega)
   have c2:=hc 2 (by omega)
   have c3:=hc 3 (by omega)
   have c4:=hc 4 (by omega)
   have c5:=hc 5 (by omega)
   have c6:=hc 6 (by omega)
   have c7:=hc 7 (by omega)
   simp only [WP.cells,List.getElem?_cons_zero,List.getElem?_cons_succ,Nat.add_zero] at c0 c1 c2 c3 c4 c5 c6 c7
   have HOW:Hid (∀j u,(WP.cells ⟨⟨xa,xm,xo,xe,xs,xx,xt,xh⟩,ta,tc,ha,hc'⟩)[j]? = some u→∀W:World,∀T,(W.alloc (.cells #[.string xa,.string xm,.int .i64 xo,.int .i64 xe,.int .i64 xs,.int .i64 xx,.slice ta xt.length tc,.slice ha xh.length hc'] T)).cell? ((⟨W.heap.size,0,none⟩:Addr).add j)=some u):=hid_intro (by
    intro j u hx W T
    have hB:=(Blk.new W (WP.cells ⟨⟨xa,xm,xo,xe,xs,xx,xt,xh⟩,ta,tc,ha,hc'⟩) T).2 j (by have:=(List.getElem?_eq_some_iff.1 hx).1;exact this)
    rw [hx] at hB
    have e:((⟨W.heap.size,0,none⟩:Addr).add j)=⟨W.heap.size,j,none⟩:=by
     by_cases h:j=0
     ·subst h;simp [Addr.add]
     ·simp [Addr.add,h]
    rw [e]
    exact hB)
   have HOF:Hid (ownF a ⟨⟨xa,xm,xo,xe,xs,xx,xt,xh⟩,ta,tc,ha,hc'⟩=(xa.toList==a.toList)):=hid_intro rfl
   clear hc
   cases hq:(xa.toList==a.toList)
   ·rw [HOF.out,hq,cond_false,List.append_nil] at HF
    generalize xt.length=l1 at *
    generalize xh.length=l2 at *
    clear HOW
    go_wp2_with fail
    go_roundw
    case rel=>exact ⟨k+1,by omega,by go_num,hid_intro (by rw [HF.out];exact HO.out.alloc _),hid_intro (HB.out.alloc HB.out.size _)⟩
    case measure=>simp [intOf];omega
   ·rw [HOF.out,hq,cond_true] at HF
    have HCE:Hid (∃cs,cs=WP.cells ⟨⟨xa,xm,xo,xe,xs,xx,xt,xh⟩,ta,tc,ha,hc'⟩):=hid_intro ⟨_,rfl⟩
    obtain ⟨l1,hl1⟩:∃n,n=xt.length:=⟨_,rfl⟩
    obtain ⟨l2,hl2⟩:∃n,n=xh.length:=⟨_,rfl⟩
    have HL1:=hid_intro hl1
    have HL2:=hid_intro hl2
    rw [←hl1] at c6
    rw [←hl2] at c7
    simp only [WP.cells,←hl1,←hl2] at HOW
    clear hl1 hl2
    obtain ⟨W1,hW1⟩:∃z,z=wr.alloc (.cells #[.string xa,.string xm,.int .i64 xo,.int .i64 xe,.int .i64 xs,.int .i64 xx,.slice ta l1 tc,.slice ha l2 hc'] 107):=⟨_,rfl⟩
    have HB1:Hid (Below w.heap.size w W1):=hid_intro (by rw [hW1];exact HB.out.alloc HB.out.size _)
    have HO1:Hid (W1.ownsRow w.heap.size 107 8 u5 F.length (cellsAll WP.cells F)):=hid_intro (by rw [hW1];exact HO.out.alloc _)
    have HS1:Hid (W1.heap.size=wr.heap.size+1):=hid_intro (by rw [hW1];simp)
    have HW1:=hid_intro hW1
    clear hW1
    go_wp2_with (at_builtin;rw [←HW1.out];refine wpList_append_own _ rfl _ _ 43 rfl w.heap.size 107 i0 (.agg #[.string ⟨#[]⟩,.string ⟨#[]⟩,.int .i64 0,.int .i64 0,.int .i64 0,.int .i64 0,.slice none 0 0,.slice none 0 0]) 8 112 Tryz.underlying43 hi hz0 hz1 hz2 rfl (by decide) _ _ _ rfl (HO1.out.alloc _) ⟨wr.heap.size+1,0,none⟩ 1 1 [.string xa,.string xm,.int .i64 xo,.int .i64 xe,.int .i64 xs,.int .i64 xx,.slice ta l1 tc,.slice ha l2 hc'] rfl rfl ?d1 ?d2 ?d3 ?d4 ?d5 ?_)
    case d1 =>
     intro j u hx
     have h:=HOW.out j u hx W1 107
     rw [HS1.out] at h
     exact h
    case d2 =>
     intro u hu
     simp only [List.mem_cons,List.not_mem_nil,or_false] at hu
     rcases hu with rfl|rfl|rfl|rfl|rfl|rfl|rfl|rfl<;>rfl
    case d3=>unfold maxLen;have:=HLF.out;omega
    case d4=>have:=HLF.out;omega
    case d5=>have h1:=HB1.out.size;simp;omega
    intro v' w4 hown hgrow hne
    have hob:∀c,u5.ownBlock=some c→w.heap.size≤c:=fun c hc=>(HO1.out.lt c hc).1
    have HO4:Hid (w4.ownsRow w.heap.size 107 8 v' (F ++ [(⟨⟨xa,xm,xo,xe,xs,xx,xt,xh⟩,ta,tc,ha,hc'⟩:WP)]).length (cellsAll WP.cells (F ++ [(⟨⟨xa,xm,xo,xe,xs,xx,xt,xh⟩,ta,tc,ha,hc'⟩:WP)]))):=hid_intro (by rw [cellsAll_app,List.length_append];simp only [WP.cells,←HL1.out,←HL2.out];exact hown)
    have HB4:Hid (Below w.heap.size w w4):=hid_intro ((HB1.out.alloc HB1.out.size _).grown hgrow (HB1.out.alloc HB1.out.size _).size (fun c e=>hob c e))
    clear hown hgrow hne hob
    go_wp2_with fail
    go_roundw
    case rel=>exact ⟨k+1,by omega,by go_num,hid_intro (by rw [HF.out];exact HO4.out),HB4⟩
    case measure=>simp [intOf];omega
  ·have hlt2:¬(k:Int)<(len:Int):=by omega
   obtain rfl:k=len:=by omega
   rw [HEND.out] at HO
   obtain ⟨F,hF⟩:∃F,F=ps.filter (ownF a):=⟨_,rfl⟩
   rw [←hF] at HO
   have HFE:=hid_intro hF
   have HFL:Hid (F.length≤1048576):=hid_intro (by rw [hF];have h1:=List.length_filter_le (ownF a) ps;have:=HL.out;omega)
   clear hF
   obtain ⟨bo,cap',rfl,hm⟩:=own_made (z:=WP.zero) WP.len HO.out
   by_cases h0:F.length=0
   ·obtain rfl:F=[]:=List.length_eq_zero_iff.1 h0
    have HS:=hid_intro (fun (W:World)=>AnyF.slices_SortFunc_none Tryz.sortS bo cap' (.func (.func 176) #[] #[]) W)
    go_wp2_with fail
    refine (HS.out _).mono ?_
    rintro e w' ⟨rfl,rfl⟩
    go_wp2_with fail
    go_ret
    exact ⟨bo,cap',[],rfl,by rw [←HFE.out],List.Pairwise.nil,.inl rfl,HB.out⟩
   ·rcases hm.own with q|⟨g,rfl,hg,hp⟩
    ·exact absurd q h0
    rcases hm.rws with q|⟨b2,off2,e2,hl2,hc2⟩
    ·exact absurd q h0
    simp only [Option.some.injEq,Addr.mk.injEq,and_true] at e2
    obtain ⟨rfl,rfl⟩:=e2
    have HS:=hid_intro (sort_wds g 0 cap' F wr hl2 HFL.out (fun i hi j hj=>hc2 i hi j hj) (fun o ho=>by rw [Nat.zero_add];exact hp.free o ho))
    clear hm hp hc2 HO
    generalize hFl:F.length=fl at *
    go_wp2_with fail
    refine HS.out.mono ?_
    rintro e w' ⟨rfl,rs,hp,hs,hgr,hR⟩
    have HR:=hid_intro hR
    have HP:=hid_intro hp
    have HSS:=hid_intro hs
    have hrl:rs.length=fl:=by rw [hp.length_eq,hFl]
    have HB4:=hid_intro (HB.out.grown hgr HB.out.size (fun c e=>by cases e;exact hg))
    have HRL:=hid_intro hrl
    clear hR hp hs hgr hrl
    go_wp2_with fail
    go_ret
    exact ⟨_,cap',rs,by rw [HRL.out];rfl,by rw [←HFE.out];exact HP.out,HSS.out,HR.out,HB4.out⟩
end BilR
namespace BilR
open LtR WinR LinR
open RowG (Rws cellsAll own_below getD_mem MadeG made_nil)
open CatR (Blk Blk.new Me Ca mFd MsRight IsCa caB crF)
def BlO (w:World) (O:List N × Int) (e:Ending) (w':World):Prop:=∃ao cap,e=.returned (.agg #[.slice ao O.1.length cap,.int .i64 O.2])∧MadeG 2 N.cells N.zero w.heap.size ao O.1 w'∧Below w.heap.size w w'
def Z2 (p:Nat) (w:World):Prop:=p<w.heap.size∧w.cell? ⟨p,0,none⟩=some (.slice none 0 0)∧w.cell? ⟨p,1,none⟩=some (.int .i64 0)∧w.frozen? ⟨p,0,none⟩=false∧w.frozen? ⟨p,1,none⟩=false
theorem Z2.below {p:Nat} {w w':World} (h:Z2 p w) (hb:Below w.heap.size w w'):Z2 p w':=by
 obtain ⟨h0,h1,h2,h3,h4⟩:=h
 exact ⟨by have:=hb.size;omega,(hb.cell (p:=⟨p,0,none⟩) h0).trans h1,(hb.cell (p:=⟨p,1,none⟩) h0).trans h2,(hb.frozen (p:=⟨p,0,none⟩) h0).trans h3,(hb.frozen (p:=⟨p,1,none⟩) h0).trans h4⟩
theorem Z2.new (w:World) (T:TypeId):Z2 w.heap.size (w.alloc (Obj.cells #[.slice none 0 0,.int .i64 0] T)) :=
 ⟨by simp,by simp [go_sem],by simp [go_sem],by simp [go_sem],by simp [go_sem]⟩
theorem below2 {w W:World} (hb:Below w.heap.size w W) {p:Nat} (hp:w.heap.size≤p) (x y:Value):Below w.heap.size w ((W.setCell ⟨p,0,none⟩ x).setCell ⟨p,1,none⟩ y) :=
 (hb.setCell (p:=⟨p,0,none⟩) hp _).setCell (p:=⟨p,1,none⟩) hp _
theorem made_set {base0 base p o:Nat} {ao:Option Addr} {l:List N} {w:World} (h7:MadeG 2 N.cells N.zero base0 ao l w) (h:MadeG 2 N.cells N.zero base ao l w) (hp:p<base0) (v:Value):MadeG 2 N.cells N.zero base ao l (w.setCell ⟨p,o,none⟩ v):=by
 have hg:=RowG.grown_set w p o v
 refine ⟨?_,?_⟩
 ·rcases h.rws with h0|⟨b,off,e,hl,hc⟩
  ·exact .inl h0
  ·rcases h7.own with h0|⟨g,e2,hg2,_⟩
   ·exact .inl h0
   ·have:g=b:=by rw [e] at e2;simp at e2;exact e2.1.symm
    have eb:=hg.block b hl (by simp;omega)
    exact .inr ⟨b,off,e,Nat.lt_of_lt_of_le hl hg.size,fun j hj i hi=>(World.cell?_of_block (a:=⟨b,off+j*2+i,none⟩) eb).trans (hc j hj i hi)⟩
 ·refine h.own.imp id ?_
  rintro ⟨g,e,hg1,hp1⟩
  exact ⟨g,e,hg1,WinR.ptA hp1⟩
theorem made_two {base0 base p:Nat} {ao:Option Addr} {l:List N} {w:World} (h7:MadeG 2 N.cells N.zero base0 ao l w) (h:MadeG 2 N.cells N.zero base ao l w) (hp:p<base0) {x y:Value}:MadeG 2 N.cells N.zero base ao l ((w.setCell ⟨p,0,none⟩ x).setCell ⟨p,1,none⟩ y):=made_set (made_set h7 h7 hp x) (made_set h7 h hp x) hp y
def BxI (w:World) (ma:Option Addr) (ml mc:Nat) (ca:Option Addr) (cl cc:Nat) (W:World):Prop:=Below w.heap.size w W∧w.heap.size<W.heap.size∧W.cell? ⟨w.heap.size,0,none⟩=some (.slice ma ml mc)∧W.cell? ⟨w.heap.size,1,none⟩=some (.slice ca cl cc)
theorem BxI.below {w:World} {ma:Option Addr} {ml mc:Nat} {ca:Option Addr} {cl cc:Nat} {W W':World} (h:BxI w ma ml mc ca cl cc W) (hb:Below W.heap.size W W'):BxI w ma ml mc ca cl cc W':=by
 obtain ⟨h0,h1,c0,c1⟩:=h
 have c:=fun o=>hb.cell (p:=⟨w.heap.size,o,none⟩) h1
 have:=hb.size
 exact ⟨h0.trans (hb.mono h0.size),by omega,(c 0).trans c0,(c 1).trans c1⟩
theorem BxI.drew {w:World} {ma:Option Addr} {ml mc:Nat} {ca:Option Addr} {cl cc:Nat} {W:World} (h:BxI w ma ml mc ca cl cc W):BxI w ma ml mc ca cl cc W.drew:=⟨h.1.drew,h.2⟩
theorem BxI.blk {w:World} {ma:Option Addr} {ml mc:Nat} {ca:Option Addr} {cl cc:Nat} {W:World} (h:BxI w ma ml mc ca cl cc W):Blk w.heap.size [.slice ma ml mc,.slice ca cl cc] W:=by
 obtain ⟨h0,h1,c0,c1⟩:=h
 exact ⟨h1,fun i hi=>by
  match i,hi with
  | 0,_=>exact c0
  | 1,_=>exact c1⟩
set_option maxRecDepth 100000 in
set_option maxHeartbeats 8000000 in
theorem ibill_in (ma:Option Addr) (ml mc:Nat) (ca:Option Addr) (cl cc:Nat) (a:ByteArray) (wo:Option Addr) (wl wc:Nat) (O:List N × Int) (r1 r2 r3:Bool) (cr:Int) (PO:List WP→Option Addr→World→Prop) (PC PL:Value→World→Prop) (w:World) (hwl:wl≤1048576)
 (e2:8000<a.size∨400<wl→O=([],2)) (e1:¬(8000<a.size∨400<wl)→(r1&&r2&&r3)=false→O=([],1))
 (hA:∀W,Below w.heap.size w W→Calls Tryz.prog 69 #[.agg #[.slice ma ml mc,.slice ca cl cc]] W fun e w'=>e=.returned (.bool r1)∧Below W.heap.size W w')
 (hN:∀W,Calls Tryz.prog 126 #[.string a] W fun e w'=>e=.returned (.bool r2)∧Below W.heap.size W w')
 (hW:∀W,Below w.heap.size w W→Calls Tryz.prog 127 #[.slice wo wl wc] W fun e w'=>e=.returned (.bool r3)∧Below W.heap.size W w')
 (hO:¬(8000<a.size∨400<wl)→(r1&&r2&&r3)=true→∀W,Below w.heap.size w W→Calls Tryz.prog 129 #[.string a,.slice wo wl wc] W fun e w'=>∃bo cap rs,e=.returned (.slice bo rs.length cap)∧PO rs bo w'∧Below W.heap.size W w')
 (hC:¬(8000<a.size∨400<wl)→(r1&&r2&&r3)=true→∀rs bo cap W,PO rs bo W→Below w.heap.size w W→Calls Tryz.prog 128 #[.agg #[.slice ma ml mc,.slice ca cl cc],.slice bo rs.length cap] W fun e w'=>(∃v cd,e=.returned (.tuple #[v,.int .i64 cd])∧((cd≠0∧O=([],cd))∨(cd=0∧PC v w')))∧Below W.heap.size W w')
 (hR:¬(8000<a.size∨400<wl)→(r1&&r2&&r3)=true→∀v W,PC v W→Below w.heap.size w W→Calls Tryz.prog 130 #[v] W fun e w'=>(∃v cd,e=.returned (.tuple #[v,.int .i64 cd])∧((cd≠0∧O=([],cd))∨(cd=0∧PL v w')))∧Below W.heap.size W w')
 (hK:∀v W W',PL v W→Below W.heap.size W W'→PL v W')
 (hCr:∀W,Below w.heap.size w W→Calls Tryz.prog 132 #[.agg #[.slice ma ml mc,.slice ca cl cc],.string a] W fun e w'=>e=.returned (.int .i64 cr)∧Below W.heap.size W w')
 (hD:¬(8000<a.size∨400<wl)→(r1&&r2&&r3)=true→∀v W,PL v W→Calls Tryz.prog 131 #[v,.int .i64 cr] W fun e w'=>∃ao cap,e=.returned (.slice ao O.1.length cap)∧O.2=0∧MadeG 2 N.cells N.zero W.heap.size ao O.1 w'∧Below W.heap.size W w') :
 Calls Tryz.prog 75 #[.agg #[.slice ma ml mc,.slice ca cl cc],.string a,.slice wo wl wc] w fun e w'=>BlO w O e w':=by
 have HE2:=hid_intro e2
 have HE1:=hid_intro e1
 have HA:=hid_intro hA
 have HN:=hid_intro hN
 have HW:=hid_intro hW
 have HO:=hid_intro hO
 have HC:=hid_intro hC
 have HR:=hid_intro hR
 have HK:=hid_intro hK
 have HCR:=hid_intro hCr
 have HD:=hid_intro hD
 clear e2 e1 hA hN hW hO hC hR hK hCr hD
 obtain ⟨W0,hW0⟩:∃z,z=(w.alloc (.cells #[.slice ma ml mc,.slice ca cl cc] 40)).alloc (.cells #[.slice none 0 0,.int .i64 0] 35):=⟨_,rfl⟩
 have HB0:Hid (Below w.heap.size w W0):=hid_intro (by rw [hW0];exact ((Below.refl _ _).alloc (Nat.le_refl _) _).alloc (by simp) _)
 have HX0:Hid (Blk w.heap.size [.slice ma ml mc,.slice ca cl cc] W0):=hid_intro (by rw [hW0];exact (Blk.new w _ _).below ((Below.refl _ _).alloc (Nat.le_refl _) _))
 have HZ0:Hid (Z2 (w.heap.size+1) W0):=hid_intro (by rw [hW0];have:=Z2.new (w.alloc (.cells #[.slice ma ml mc,.slice ca cl cc] 40)) 35;simpa using this)
 have HW0:=hid_intro hW0
 clear hW0
 obtain ⟨B1,hB1⟩:∃z,z=w.heap.size+1:=⟨_,rfl⟩
 rw [←hB1] at HZ0
 have HBE:=hid_intro hB1
 have hBl:w.heap.size≤B1:=by omega
 clear hB1
 generalize hsz:a.size=sz at *
 by_cases qa:8000<sz
 ·have qa2:(8000:Int)<(sz:Int):=by omega
  obtain rfl:=HE2.out (.inl qa)
  go_enter Tryz.func75,Tryz.ntmps75
  go_wp2_with fail
  refine bodyPost_ret (v:=.agg #[.slice none 0 0,.int .i64 2]) (by simp [results,Tryz.results75,go_sem]) rfl ⟨none,0,rfl,made_nil _ _ _,((Below.refl _ _).alloc (Nat.le_refl _) _).alloc (by simp) _⟩
 have qa2:¬(8000:Int)<(sz:Int):=by omega
 by_cases qb:400<wl
 ·have qb2:(400:Int)<(wl:Int):=by omega
  obtain rfl:=HE2.out (.inr qb)
  go_enter Tryz.func75,Tryz.ntmps75
  go_wp2_with fail
  refine bodyPost_ret (v:=.agg #[.slice none 0 0,.int .i64 2]) (by simp [results,Tryz.results75,go_sem]) rfl ⟨none,0,rfl,made_nil _ _ _,((Below.refl _ _).alloc (Nat.le_refl _) _).alloc (by simp) _⟩
 have qb2:¬(400:Int)<(wl:Int):=by omega
 have HE:=hid_intro (HE1.out (by omega))
 clear HE1 HE2
 go_enter Tryz.func75,Tryz.ntmps75
 go_wp2_with fail
 rw [←HW0.out,←HBE.out]
 clear HW0
 refine (HA.out _ HB0.out).mono ?_
 rintro e w1 ⟨rfl,hb1⟩
 replace HB0:=hid_intro (HB0.out.trans (hb1.mono HB0.out.size))
 replace HX0:=hid_intro (HX0.out.below hb1)
 replace HZ0:=hid_intro (HZ0.out.below hb1)
 clear hb1
 cases r1
 ·obtain rfl:=HE.out rfl
  obtain ⟨zl,z0,z1,f0,f1⟩:=HZ0.out
  go_wp2_with fail
  refine bodyPost_ret (v:=.agg #[.slice none 0 0,.int .i64 1]) (by simp [results,Tryz.results75,go_sem,z0,z1]) rfl ⟨none,0,rfl,made_nil _ _ _,below2 HB0.out hBl _ _⟩
 go_wp2_with fail
 refine (HN.out _).mono ?_
 rintro e w2 ⟨rfl,hb2⟩
 replace HB0:=hid_intro (HB0.out.trans (hb2.mono HB0.out.size))
 replace HX0:=hid_intro (HX0.out.below hb2)
 replace HZ0:=hid_intro (HZ0.out.below hb2)
 clear hb2
 cases r2
 ·obtain rfl:=HE.out rfl
  obtain ⟨zl,z0,z1,f0,f1⟩:=HZ0.out
  go_wp2_with fail
  refine bodyPost_ret (v:=.agg #[.slice none 0 0,.int .i64 1]) (by simp [results,Tryz.results75,go_sem,z0,z1]) rfl ⟨none,0,rfl,made_nil _ _ _,below2 HB0.out hBl _ _⟩
 go_wp2_with fail
 refine (HW.out _ HB0.out).mono ?_
 rintro e w3 ⟨rfl,hb3⟩
 replace HB0:=hid_intro (HB0.out.trans (hb3.mono HB0.out.size))
 replace HX0:=hid_intro (HX0.out.below hb3)
 replace HZ0:=hid_intro (HZ0.out.below hb3)
 clear hb3
 cases r3
 ·obtain rfl:=HE.out rfl
  obtain ⟨zl,z0,z1,f0,f1⟩:=HZ0.out
  go_wp2_with fail
  refine bodyPost_ret (v:=.agg #[.slice none 0 0,.int .i64 1]) (by simp [results,Tryz.results75,go_sem,z0,z1]) rfl ⟨none,0,rfl,made_nil _ _ _,below2 HB0.out hBl _ _⟩
 replace HO:=hid_intro (HO.out (by omega) rfl)
 replace HC:=hid_intro (HC.out (by omega) rfl)
 replace HR:=hid_intro (HR.out (by omega) rfl)
 replace HD:=hid_intro (HD.out (by omega) rfl)
 clear HE
 have HS0:Hid (BxI w ma ml mc ca cl cc w3):=hid_intro ⟨HB0.out,HX0.out.1,HX0.out.2 0 (by simp),HX0.out.2 1 (by simp)⟩
 have HS1:=hid_intro HS0.out.drew
 have HZ1:=hid_intro (HZ0.out.below ((Below.refl _ _).drew:Below w3.heap.size w3 w3.drew))
 clear HB0 HX0 HZ0
 go_wp2_with fail
 go_region_held3 (fun W=>Below w.heap.size w W∧w.heap.size<W.heap.size∧W.cell? ⟨w.heap.size,0,none⟩=some (.slice ma ml mc)∧W.cell? ⟨w.heap.size,1,none⟩=some (.slice ca cl cc))
  (first|assumption|(exact HS0.out)|(exact HS1.out)|(exact BxI.below (w:=w) (by assumption) hb4)|(exact BxI.below (w:=w) (by assumption) hb5))
  (first|(go_at_call 129;refine (HO.out _ (by first|exact (by assumption:BxI w ma ml mc ca cl cc _).1|exact HS1.out.1|exact HS0.out.1)).mono ?_;rintro e w4 ⟨bo,cap,rs,rfl,hp,hb4⟩;have HP:=hid_intro hp;have HZ4:=hid_intro (HZ1.out.below hb4))|(go_at_call 128;refine (HC.out rs bo cap _ HP.out (by first|exact (by assumption:BxI w ma ml mc ca cl cc _).1|exact HS1.out.1|exact HS0.out.1)).mono ?_;rintro e w5 ⟨⟨v,cd,rfl,hq⟩,hb5⟩;have HZ5:=hid_intro (HZ4.out.below hb5);have HQ5:=hid_intro hq))
 rename_i hS5
 have HB0:=hid_intro hS5.1
 have HX0:Hid (Blk w.heap.size [.slice ma ml mc,.slice ca cl cc] w5):=hid_intro (BxI.blk hS5)
 clear hS5 HS0 HS1 HO HC HP HZ1 HZ4
 have hq:=HQ5.out
 clear HQ5 hb4 hb5 hp
 rcases hq with ⟨hcd,rfl⟩|⟨rfl,hpc⟩
 ·have h1:(cd==0)=false:=by simp [hcd]
  have h2:(cd != 0)=true:=by simp [hcd]
  obtain ⟨zl,z0,z1,f0,f1⟩:=HZ5.out
  go_wp2_with fail
  refine bodyPost_ret (v:=.agg #[.slice none 0 0,.int .i64 cd]) (by simp [results,Tryz.results75,go_sem,z0,z1]) rfl ⟨none,0,rfl,made_nil _ _ _,below2 HB0.out hBl _ _⟩
 have HPC:=hid_intro hpc
 clear hpc
 go_wp2_with fail
 refine (HR.out _ _ HPC.out HB0.out).mono ?_
 rintro e w6 ⟨⟨v2,cd,rfl,hq⟩,hb6⟩
 replace HB0:=hid_intro (HB0.out.trans (hb6.mono HB0.out.size))
 replace HX0:=hid_intro (HX0.out.below hb6)
 have HZ0:=hid_intro (HZ5.out.below hb6)
 clear hb6 HZ5 HPC
 rcases hq with ⟨hcd,rfl⟩|⟨rfl,hpl⟩
 ·have h1:(cd==0)=false:=by simp [hcd]
  have h2:(cd != 0)=true:=by simp [hcd]
  obtain ⟨zl,z0,z1,f0,f1⟩:=HZ0.out
  go_wp2_with fail
  refine bodyPost_ret (v:=.agg #[.slice none 0 0,.int .i64 cd]) (by simp [results,Tryz.results75,go_sem,z0,z1]) rfl ⟨none,0,rfl,made_nil _ _ _,below2 HB0.out hBl _ _⟩
 have HPL:=hid_intro hpl
 clear hpl
 have x0:=HX0.out.2 0 (by simp)
 have x1:=HX0.out.2 1 (by simp)
 have xL:=HX0.out.1
 simp only [List.getElem?_cons_zero,List.getElem?_cons_succ] at x0 x1
 go_wp2_with fail
 refine (HCR.out _ HB0.out).mono ?_
 rintro e w7 ⟨rfl,hb7⟩
 replace HPL:=hid_intro (HK.out _ _ _ HPL.out hb7)
 replace HB0:=hid_intro (HB0.out.trans (hb7.mono HB0.out.size))
 replace HX0:=hid_intro (HX0.out.below hb7)
 replace HZ0:=hid_intro (HZ0.out.below hb7)
 clear hb7
 clear x0 x1 xL
 go_wp2_with fail
 refine (HD.out _ _ HPL.out).mono ?_
 rintro e w8 ⟨ao,cap2,rfl,h0,hm,hb8⟩
 have HM:=hid_intro (hm.low HB0.out.size)
 have H0:=hid_intro h0
 have HBL:Hid (B1<w7.heap.size):=hid_intro HZ0.out.1
 have HM7:=hid_intro hm
 replace HB0:=hid_intro (HB0.out.trans (hb8.mono HB0.out.size))
 replace HX0:=hid_intro (HX0.out.below hb8)
 replace HZ0:=hid_intro (HZ0.out.below hb8)
 clear hm h0 hb8
 obtain ⟨zl,z0,z1,f0,f1⟩:=HZ0.out
 generalize hn:O.1.length=n1 at *
 go_wp2_with fail
 refine bodyPost_ret (v:=.agg #[.slice ao n1 cap2,.int .i64 0]) (by simp [results,Tryz.results75,go_sem,z0,z1]) rfl ⟨ao,cap2,by rw [H0.out,hn],?_,below2 HB0.out hBl _ _⟩
 exact made_two HM7.out HM.out HBL.out
end BilR
namespace BilR
open LtR WinR LinR
open RowG (getD_mem)
open NetR (put fnd nlt addN)
def ixs (a:ByteArray) (ws:List Wd) (k:Nat):List Nat:=(List.range k).filter (fun j=>ownW a (ws.getD j Wd.zero))
def wm (ws:List Wd) (j:Nat):ByteArray:=(ws.getD j Wd.zero).m
def mk (ws:List Wd) (j:Nat):N:=⟨wm ws j,(j:Int)⟩
def jx (a:ByteArray) (ws:List Wd) (k:Nat):List Nat:=srt (wm ws) (ixs a ws k)
def nms (a:ByteArray) (ws:List Wd) (k:Nat):List N:=(jx a ws k).map (mk ws)
theorem ixs_more (a:ByteArray) (ws:List Wd) (k:Nat):ixs a ws (k+1)=ixs a ws k++(if ownW a (ws.getD k Wd.zero)=true then [k] else []):=by
 unfold ixs
 rw [List.range_succ,List.filter_append]
 congr 1
 rw [List.filter_cons]
 split<;>simp_all
theorem ixs_map (a:ByteArray) (ws:List Wd):(ixs a ws ws.length).map (fun j=>ws.getD j Wd.zero)=ws.filter (ownW a):=by
 have e:ws=(List.range ws.length).map (fun j=>ws.getD j Wd.zero):=by
  refine List.ext_getElem (by simp) (fun i h1 h2=>?_)
  simp [List.getD,h1]
 conv=>rhs;rw [e]
 rw [List.filter_map]
 rfl
theorem ixs_lt {a:ByteArray} {ws:List Wd} {k j:Nat} (h:j∈ixs a ws k):j<k∧ownW a (ws.getD j Wd.zero)=true:=by
 unfold ixs at h
 obtain ⟨h1,h2⟩:=List.mem_filter.1 h
 exact ⟨List.mem_range.1 h1,h2⟩
theorem jx_lt {a:ByteArray} {ws:List Wd} {k j:Nat} (h:j∈jx a ws k):j<k∧ownW a (ws.getD j Wd.zero)=true:=ixs_lt ((srt_perm _).mem_iff.1 h)
theorem jx_wds (a:ByteArray) (ws:List Wd):(jx a ws ws.length).map (fun j=>ws.getD j Wd.zero)=srt Wd.m (ws.filter (ownW a)):=by
 rw [←ixs_map]
 exact srt_map (f:=Wd.m) (fun j=>ws.getD j Wd.zero) (ixs a ws ws.length)
theorem nms_eq (a:ByteArray) (ws:List Wd) (k:Nat):nms a ws k=srt N.i ((ixs a ws k).map (mk ws)):=srt_map (f:=N.i) (mk ws) (ixs a ws k)
theorem nms_other {a:ByteArray} {ws:List Wd} {k:Nat} (h:ownW a (ws.getD k Wd.zero)=false):nms a ws (k+1)=nms a ws k:=by
 rw [nms_eq,nms_eq,ixs_more,h];simp
theorem put_insB:∀{L:List N} {x:N},fnd L x.i=false→put L x=insB N.i x L
 | [],x,_=>rfl
 | y::l,x,h=>by
  unfold put NetR.ins
  unfold NetR.fnd at h
  unfold insB
  cases q:lt y.i x.i
  ·rw [q,cond_false] at h
   have q2:nlt y x=false:=q
   cases q3:lt x.i y.i
   ·have:=lt_total q q3
    rw [this] at h;simp at h
   ·have q4:nlt x y=true:=q3
    simp [q2,q4]
  ·rw [q,cond_true] at h
   have q2:nlt y x=true:=q
   rw [if_pos q2,if_pos rfl]
   have:=put_insB h
   unfold put at this
   rw [this]
theorem nms_own {a:ByteArray} {ws:List Wd} {k:Nat} (h:ownW a (ws.getD k Wd.zero)=true) (hf:fnd (nms a ws k) (wm ws k)=false):put (nms a ws k) (mk ws k)=nms a ws (k+1):=by
 rw [put_insB (x:=mk ws k) hf,nms_eq,nms_eq,ixs_more,if_pos h,List.map_append,List.map_cons,List.map_nil,srt_snoc]
theorem fnd_some:∀{L:List N} {x:ByteArray},fnd L x=true→∃y∈L,y.i=x
 | y::l,x,h=>by
  unfold NetR.fnd at h
  cases q:lt y.i x
  ·rw [q,cond_false] at h
   exact ⟨y,List.mem_cons_self ..,toList_inj (by simpa using h)⟩
  ·rw [q,cond_true] at h
   obtain ⟨z,hz,e⟩:=fnd_some h
   exact ⟨z,List.mem_cons_of_mem _ hz,e⟩
theorem lt_irr (x:ByteArray):lt x x=false:=by
 cases h:lt x x
 ·rfl
 ·have:=lt_asymm h;rw [h] at this;cases this
theorem fnd_none:∀{L:List N} {x:ByteArray},Ris N.i L→fnd L x=false→∀y∈L,y.i≠x
 | y::l,x,hR,h,z,hz,e=>by
  obtain ⟨h1,h2⟩:=List.pairwise_cons.1 hR
  unfold NetR.fnd at h
  cases q:lt y.i x
  ·rw [q,cond_false] at h
   rcases List.mem_cons.1 hz with rfl|hz
   ·rw [e] at h;simp at h
   ·have:=h1 z hz
    rw [e] at this;rw [this] at q;cases q
  ·rw [q,cond_true] at h
   rcases List.mem_cons.1 hz with rfl|hz
   ·rw [e,lt_irr] at q;cases q
   ·exact fnd_none h2 h z hz e
def NoTwo (a:ByteArray) (ws:List Wd) (k:Nat):Prop:=((ixs a ws k).map (wm ws)).Nodup
theorem nms_ris {a:ByteArray} {ws:List Wd} {k:Nat} (h:NoTwo a ws k):Ris N.i (nms a ws k):=by
 rw [nms_eq]
 refine srt_ris _ ?_
 rw [List.map_map]
 exact h
theorem noTwo_other {a:ByteArray} {ws:List Wd} {k:Nat} (h:ownW a (ws.getD k Wd.zero)=false) (hn:NoTwo a ws k):NoTwo a ws (k+1):=by
 unfold NoTwo at hn ⊢
 rw [ixs_more,h];simpa using hn
theorem noTwo_own {a:ByteArray} {ws:List Wd} {k:Nat} (h:ownW a (ws.getD k Wd.zero)=true) (hf:fnd (nms a ws k) (wm ws k)=false) (hn:NoTwo a ws k):NoTwo a ws (k+1):=by
 unfold NoTwo
 rw [ixs_more,if_pos h,List.map_append,List.nodup_append]
 refine ⟨hn,by simp,fun x hx y hy=>?_⟩
 simp only [List.map_cons,List.map_nil,List.mem_singleton] at hy
 subst hy
 obtain ⟨j,hj,rfl⟩:=List.mem_map.1 hx
 exact fnd_none (nms_ris hn) hf (mk ws j) (List.mem_map.2 ⟨j,(srt_perm _).mem_iff.2 hj,rfl⟩)
theorem two_of {a:ByteArray} {ws:List Wd} {k:Nat} (hk:k<ws.length) (h:ownW a (ws.getD k Wd.zero)=true) (hf:fnd (nms a ws k) (wm ws k)=true):¬((ws.filter (ownW a)).map Wd.m).Nodup:=by
 intro hn
 obtain ⟨y,hy,e⟩:=fnd_some hf
 obtain ⟨j,hj,rfl⟩:=List.mem_map.1 hy
 obtain ⟨h1,h2⟩:=jx_lt hj
 have hp:((List.range ws.length).filter (fun j=>ownW a (ws.getD j Wd.zero))).Pairwise (fun i j=>wm ws i≠wm ws j):=by
  rw [←ixs_map,List.map_map] at hn
  exact List.pairwise_map.1 hn
 have hs:[j,k].Sublist ((List.range ws.length).filter (fun j=>ownW a (ws.getD j Wd.zero))):=by
  have h3:[j,k].Sublist (List.range ws.length):=by
   have h4:([j] ++ [k]).Sublist (List.range k++(List.range (ws.length-k)).map (k + ·)):=by
    refine List.Sublist.append (List.singleton_sublist.2 (List.mem_range.2 h1)) (List.singleton_sublist.2 (List.mem_map.2 ⟨0,List.mem_range.2 (by omega),by omega⟩))
   rw [←List.range_add,show k+(ws.length-k)=ws.length by omega] at h4
   exact h4
  have:=h3.filter (fun j=>ownW a (ws.getD j Wd.zero))
  rwa [show [j,k].filter (fun j=>ownW a (ws.getD j Wd.zero))=[j,k] from List.filter_eq_self.2 (fun z hz=>by rcases List.mem_cons.1 hz with rfl|hz;exact h2;rcases List.mem_cons.1 hz with rfl|hz;exact h;cases hz)] at this
 have:=hp.sublist hs
 simp only [List.pairwise_cons,List.mem_singleton,forall_eq] at this
 exact this.1 e
theorem noTwo_all {a:ByteArray} {ws:List Wd} (h:NoTwo a ws ws.length):((ws.filter (ownW a)).map Wd.m).Nodup:=by
 rw [←ixs_map,List.map_map];exact h
end BilR
end Go.Proofs.YtmalfhhkjdkadaaGreatDoor
