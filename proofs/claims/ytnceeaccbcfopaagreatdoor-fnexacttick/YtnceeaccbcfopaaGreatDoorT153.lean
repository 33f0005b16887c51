/-
  An engine that came in. No condition.
-/
import Derived.Test.YtnceeaccbcfopaaGreatDoorT152
namespace Go.Proofs.YtnceeaccbcfopaaGreatDoor
open Go.ChangeShapes Go.WideShapes Go.ChangeAt Go.RowKit Go.Deep
set_option linter.unusedVariables false
namespace EngR
open CatR
section
variable {J:Type} {enc:TypeId × Value→J} {w:World} {base:Nat} {spare:Nat→Bool} {held:Bool}
theorem lst7 {α:Type} {cs:List α} (h:cs.length=7):∃c0 c1 c2 c3 c4 c5 c6,cs=[c0,c1,c2,c3,c4,c5,c6]:=by
 match cs,h with
 | [c0,c1,c2,c3,c4,c5,c6],_=>exact ⟨c0,c1,c2,c3,c4,c5,c6,rfl⟩
theorem eng_cells {P:Program} {t:TypeId} {f0 f1 f2 f3 f4 f5:Field} {fuel:Nat} {cs:List Value} {x:DataW J × List MemPlace} (hs:P.underlying t=some (.struct #[f0,f1,f2,f3,f4,f5])) (hC:P.cellsOf t=7)
 (o0:f0.offset=0) (o1:f1.offset=2) (o2:f2.offset=3) (o3:f3.offset=4) (o4:f4.offset=5) (o5:f5.offset=6)
 (k0:P.cellsOf f0.type=2) (k1:P.cellsOf f1.type=1) (k2:P.cellsOf f2.type=1) (k3:P.cellsOf f3.type=1) (k4:P.cellsOf f4.type=1) (k5:P.cellsOf f5.type=1)
 (h:DataW.trod enc P w base spare held fuel t cs=some x) :
 ∃n c0 c1 c2 c3 c4 c5 c6,cs=[c0,c1,c2,c3,c4,c5,c6]∧(∃y,DataW.trod enc P w base spare held n f0.type [c0,c1]=some y)∧(∃y,DataW.trod enc P w base spare held n f1.type [c2]=some y)∧(∃y,DataW.trod enc P w base spare held n f2.type [c3]=some y)∧(∃y,DataW.trod enc P w base spare held n f3.type [c4]=some y)∧(∃y,DataW.trod enc P w base spare held n f4.type [c5]=some y)∧∃y,DataW.trod enc P w base spare held n f5.type [c6]=some y:=by
 obtain ⟨xs,n,_,_,hl,hlen,hf⟩:=DataW.trod_struct hs h
 obtain ⟨c0,c1,c2,c3,c4,c5,c6,rfl⟩:=lst7 (hl.trans hC)
 obtain ⟨y0,y1,y2,y3,y4,y5,rfl⟩:=lst6 (show xs.length=6 from hlen)
 have h0:=hf 0 f0 rfl
 have h1:=hf 1 f1 rfl
 have h2:=hf 2 f2 rfl
 have h3:=hf 3 f3 rfl
 have h4:=hf 4 f4 rfl
 have h5:=hf 5 f5 rfl
 simp [o0,k0] at h0
 simp [o1,k1] at h1
 simp [o2,k2] at h2
 simp [o3,k3] at h3
 simp [o4,k4] at h4
 simp [o5,k5] at h5
 exact ⟨n,c0,c1,c2,c3,c4,c5,c6,rfl,⟨_,h0⟩,⟨_,h1⟩,⟨_,h2⟩,⟨_,h3⟩,⟨_,h4⟩,⟨_,h5⟩⟩
theorem eng_open {fuel:Nat} {cs:List Value} {y:DataW J × List MemPlace} (h:DataW.trod enc Tryz.prog w base spare held fuel 31 cs=some y) :
 ∃(x:Eng) (ma:Option Addr) (mc:Nat) (ca:Option Addr) (cc:Nat) (sa:Option Addr) (sc:Nat) (ea:Option Addr) (ec:Nat) (ua:Option Addr) (uc:Nat) (da:Option Addr) (dc:Nat),cs=(ecells x ma mc ca cc sa sc ea ec ua uc da dc).toList∧x.In∧(∀d∈x.ds,(Lit.int .i64 d.mo).wf=true)∧IsEng (.agg (ecells x ma mc ca cc sa sc ea ec ua uc da dc)) x w:=by
 obtain ⟨n,c0,c1,c2,c3,c4,c5,c6,rfl,⟨y0,h0⟩,⟨y1,h1⟩,⟨y2,h2⟩,⟨y3,h3⟩,⟨y4,h4⟩,⟨y5,h5⟩⟩:=eng_cells Tryz.underlying31 (by kernel_rfl) rfl rfl rfl rfl rfl rfl (by kernel_rfl) (by kernel_rfl) (by kernel_rfl) (by kernel_rfl) (by kernel_rfl) (by kernel_rfl) h
 obtain ⟨ma,ml,mc,ca,cl,cc,e0,⟨n1,z1,t1⟩,⟨n2,z2,t2⟩⟩:=ca_cells Tryz.underlying25 (by kernel_rfl) (by kernel_rfl) Tryz.underlying22 Tryz.underlying23 h0
 simp only [List.cons.injEq,and_true] at e0
 obtain ⟨rfl,rfl⟩:=e0
 obtain ⟨wl,ms,hml,wi,hM⟩:=mes_open (tt:=0) Tryz.underlying22 Tryz.underlying141 (by kernel_rfl) (by kernel_rfl) Tryz.underlying9 Tryz.underlying2 Tryz.underlying4 Tryz.underlying2 Tryz.underlying2 Tryz.underlying139 Tryz.underlying259 (by kernel_rfl) (by kernel_rfl) Tryz.underlying2 Tryz.underlying2 t1
 obtain ⟨wl',rs,hcl,wi',hR⟩:=crs_open Tryz.underlying23 Tryz.underlying144 (by kernel_rfl) (by kernel_rfl) Tryz.underlying9 Tryz.underlying2 t2
 obtain ⟨sa,sl,sc,rfl⟩:=slice_of Tryz.underlying26 h1
 obtain ⟨sw,ss,hsl,si,hSs⟩:=crs_open Tryz.underlying26 Tryz.underlying87 (by kernel_rfl) (by kernel_rfl) Tryz.underlying9 Tryz.underlying2 h1
 obtain ⟨ea,el,ec,rfl⟩:=slice_of Tryz.underlying27 h2
 obtain ⟨es,hel,ew,hEs,ei⟩:=SeenR.ens_open Tryz.underlying27 Tryz.underlying90 (by kernel_rfl) (by kernel_rfl) Tryz.underlying9 Tryz.underlying2 Tryz.underlying2 h2
 obtain ⟨ua,ul,uc,rfl⟩:=slice_of Tryz.underlying28 h3
 obtain ⟨ws,hul,uw,hWs,ui⟩:=WinR.wns_open Tryz.underlying28 Tryz.underlying95 (by kernel_rfl) (by kernel_rfl) Tryz.underlying9 Tryz.underlying9 Tryz.underlying2 Tryz.underlying2 Tryz.underlying2 Tryz.underlying2 Tryz.underlying92 Tryz.underlying93 Tryz.underlying9 (by kernel_rfl) Tryz.underlying220 (by kernel_rfl) (by kernel_rfl) Tryz.underlying2 Tryz.underlying2 h3
 obtain ⟨da,dl,dc,rfl⟩:=slice_of Tryz.underlying29 h4
 obtain ⟨ds,hdl,dw,hDs,di⟩:=LedR.docs_open Tryz.underlying29 Tryz.underlying99 (by kernel_rfl) (by kernel_rfl) Tryz.underlying9 Tryz.underlying2 Tryz.underlying2 Tryz.underlying97 Tryz.underlying212 (by kernel_rfl) (by kernel_rfl) Tryz.underlying9 Tryz.underlying2 h4
 obtain ⟨fr,ef,rfl,wf⟩:=DataW.trod_int Tryz.underlying2 h5
 simp only [List.cons.injEq,and_true] at ef
 subst ef hml hcl hsl hel hul hdl
 exact ⟨⟨⟨ms,rs⟩,ss,es,ws,ds,fr⟩,ma,mc,ca,cc,sa,sc,ea,ec,ua,uc,da,dc,rfl,⟨⟨wl,wi,wl',wi'⟩,sw,si,ew,ei,uw,ui,dw,di,wf⟩,fun d hd=>(di d hd).2,⟨ma,mc,ca,cc,sa,sc,ea,ec,ua,uc,da,dc,rfl,hM,hR,hSs,hEs,hWs,hDs⟩⟩
end
end EngR
end Go.Proofs.YtnceeaccbcfopaaGreatDoor
