/-
  Tick by the model: it answers what Tick answers. The conditions: sizes of at most 1048576.
-/
import Derived.Test.YtnceeaccbcfopaaGreatDoorT150
namespace Go.Proofs.YtnceeaccbcfopaaGreatDoor
open Go.ChangeShapes Go.WideShapes Go.ChangeAt Go.RowKit
set_option linter.unusedVariables false
namespace EngR
open OwG CatR ChG DocR
open RowG (cellsAll grown_set MadeG Rws)
open EvtR (Pt)
theorem MsO.vb {base b:Nat} {v:Value} {ms:List Me} {W W':World} (h:MsO base v ms W) (hv:∃z,W.heap[b]? = some (.cells z 42)) (hg:W.grownBy W' (some b)):MsO base v ms W':=by
 obtain ⟨lim,xs,h1,h2,h3,h4,h5⟩:=h
 exact ⟨lim,xs,h1,own_vb h2 hv (by decide) hg,fun x hx=>own_vb (h3 x hx) hv (by decide) hg,h4,h5⟩
theorem DsO.vb {base b:Nat} {v:Value} {ds:List D} {W W':World} (h:LedR.DsO base v ds W) (hv:∃z,W.heap[b]? = some (.cells z 42)) (hg:W.grownBy W' (some b)):LedR.DsO base v ds W':=by
 obtain ⟨xs,h1,h2,h3,h4⟩:=h
 exact ⟨xs,h1,own_vb h2 hv (by decide) hg,fun x hx=>own_vb (h3 x hx) hv (by decide) hg,h4⟩
theorem DsO.oth {base base' n:Nat} {v v':Value} {ds:List D} {xs':List Value} {W W':World} (h:LedR.DsO base v ds W) (ho:W.ownsRow base' 106 8 v' n xs') (hg:W.grownBy W' v'.ownBlock):LedR.DsO base v ds W':=by
 obtain ⟨xs,h1,h2,h3,h4⟩:=h
 exact ⟨xs,h1,own_keepO h2 hg (own_apart h2 ho (by decide)),fun x hx=>own_keepO (h3 x hx) hg (own_apart (h3 x hx) ho (by decide)),h4⟩
def EgT (x:Eng) (lo:Nat) (v:Value) (W:World):Prop:=∃ma mc ca cc sa sc ea ec ua uc da dc,v=.agg (ecells x ma mc ca cc sa sc ea ec ua uc da dc)∧MsO lo (.slice ma x.c.ms.length mc) x.c.ms W∧W.ownsRow lo 151 2 (.slice ca x.c.cs.length cc) x.c.cs.length (cellsAll Cr.cells x.c.cs)∧W.ownsRow lo 63 2 (.slice sa x.ss.length sc) x.ss.length (cellsAll Cr.cells x.ss)∧W.ownsRow lo 110 3 (.slice ea x.es.length ec) x.es.length (cellsAll SeenR.N.cells x.es)∧WsT lo (.slice ua x.ws.length uc) x.ws W∧LedR.DsO lo (.slice da x.ds.length dc) x.ds W
theorem EgT.far {x:Eng} {lo g:Nat} {v:Value} {W W':World} (h:EgT x lo v W) (hg:W.grownBy W' (some g)) (hl:g<lo):EgT x lo v W':=by
 obtain ⟨ma,mc,ca,cc,sa,sc,ea,ec,ua,uc,da,dc,e,h1,h2,h3,h4,h5,h6⟩:=h
 exact ⟨ma,mc,ca,cc,sa,sc,ea,ec,ua,uc,da,dc,e,h1.far hg hl,own_keepG h2 hg hl,own_keepG h3 hg hl,own_keepG h4 hg hl,h5.far hg hl,h6.far hg hl⟩
theorem EgT.eng {x:Eng} {lo:Nat} {v:Value} {W:World} (h:EgT x lo v W):IsEng v x W:=by
 obtain ⟨ma,mc,ca,cc,sa,sc,ea,ec,ua,uc,da,dc,e,h1,h2,h3,h4,h5,h6⟩:=h
 obtain ⟨a1,c1,e1,r1⟩:=h1.mes
 cases e1
 obtain ⟨a4,c4,e4,m4⟩:=RowG.own_made (z:=SeenR.N.zero) SeenR.N.len h4
 cases e4
 obtain ⟨a5,c5,e5,r5⟩:=h5.reads
 cases e5
 obtain ⟨a6,c6,e6,r6⟩:=h6.dcs
 cases e6
 exact ⟨ma,mc,ca,cc,sa,sc,ea,ec,ua,uc,da,dc,e,r1,own_crsT h2 rfl,own_crsT h3 rfl,m4.rws,r5,r6⟩
set_option maxHeartbeats 4000000 in
theorem scopy_tk (ma:Option Addr) (mc:Nat) (ca:Option Addr) (cc:Nat) (sa:Option Addr) (sc:Nat) (ea:Option Addr) (ec:Nat) (ua:Option Addr) (uc:Nat) (da:Option Addr) (dc:Nat) (x:Eng) (m:Int) (w:World) (hS:x.Small) (hO:x.Ok) (q1:Mes ma x.c.ms.length x.c.ms w) (q2:Crs ca x.c.cs.length x.c.cs w) (q3:Crs sa x.ss.length x.ss w) (q4:SeenR.Ens ea x.es w) (q5:WinR.Wns ua x.ws w) (q6:LedR.Dcs da x.ds w) :
 Calls Tryz.prog 20 #[.agg #[.slice ma x.c.ms.length mc,.slice ca x.c.cs.length cc,.slice sa x.ss.length sc,.slice ea x.es.length ec,.slice ua x.ws.length uc,.slice da x.ds.length dc,.int .i64 x.fr]] w fun e w'=>∃(xa:Option Addr) (xc:Nat) (ya:Option Addr) (yc:Nat) (za:Option Addr) (zc:Nat) (pa:Option Addr) (pc:Nat) (ra:Option Addr) (rc:Nat) (ta:Option Addr) (tc:Nat),e=.returned (.agg #[.slice xa x.c.ms.length xc,.slice ya x.c.cs.length yc,.slice za x.ss.length zc,.slice pa x.es.length pc,.slice ra x.ws.length rc,.slice ta x.ds.length tc,.int .i64 x.fr])∧(x.ss.length=0∨∃g,za=some ⟨g,0,none⟩∧w.heap.size≤g∧Pt g (x.ss.length*2) w')∧Crs za x.ss.length x.ss w'∧(∀W2,Below w'.heap.size w' W2→∀k g,k<x.ss.length→za=some ⟨g,0,none⟩→EgT (turn x k m) w.heap.size (.agg #[.slice xa x.c.ms.length xc,.slice ya x.c.cs.length yc,.slice za x.ss.length zc,.slice pa x.es.length pc,.slice ra x.ws.length rc,.slice ta x.ds.length tc,.int .i64 x.fr]) (W2.setCell ⟨g,k*2+1,none⟩ (.int .i64 m)))∧Below w.heap.size w w':=by
 obtain ⟨m6,c6,t5⟩:=ok_me hO
 have hs:=hO.ss
 have he:=hO.es
 have hw:=hO.ws
 have hd:=hO.ds
 refine (scopy_in ma _ mc ca _ cc sa _ sc ea _ ec ua _ uc da _ dc x.fr x.ws
  (fun v W=>∃a c a' c',v=.agg #[.slice a x.c.ms.length c,.slice a' x.c.cs.length c']∧MsO (w.heap.size+2) (.slice a x.c.ms.length c) x.c.ms W∧W.ownsRow (w.heap.size+2) 151 2 (.slice a' x.c.cs.length c') x.c.cs.length (cellsAll Cr.cells x.c.cs))
  (fun v W=>W.ownsRow (w.heap.size+2) 63 2 v x.ss.length (cellsAll Cr.cells x.ss))
  (fun v W=>W.ownsRow (w.heap.size+2) 110 3 v x.es.length (cellsAll SeenR.N.cells x.es))
  (fun v W=>LedR.DsO (w.heap.size+2) v x.ds W) (cellsAll Cr.cells x.ss) (cellsAll SeenR.N.cells x.es) w rfl (by omega) ⟨by omega,by omega⟩ q5 (fun y hy=>⟨(sm_w hS y hy).2.2.1,(sm_w hS y hy).2.2.2.2⟩)
  ?_ ?_ ?_ ?_
  (fun v W W' h hb=>RowG.own_below h hb) (fun v b W W' h hv hg=>own_vb h hv (by decide) hg) (fun v v' n ys W W' h ho hg=>own_keepO h hg (own_apart h ho (by decide))) (fun v b W W' h hg hb=>own_keepG h hg hb)
  (fun v W W' h hb=>RowG.own_below h hb) (fun v b W W' h hv hg=>own_vb h hv (by decide) hg) (fun v v' n ys W W' h ho hg=>own_keepO h hg (own_apart h ho (by decide))) (fun v b W W' h hg hb=>own_keepG h hg hb)
  (fun v W W' h hb=>h.below hb) (fun v b W W' h hv hg=>DsO.vb h hv hg) (fun v v' n ys W W' h ho hg=>DsO.oth h ho hg) (fun v b W W' h hg hb=>h.far hg hb)
  (fun W hW hsz=>(scopy_g ma ca mc cc x.c W hO.c (q1.below hW) (q2.below hW)).mono ?_)
  (fun W hW hsz=>(LedR.scopy da dc x.ds W (by omega) (fun d hd=>(hS.ds d hd).2.1) (q6.below hW)).mono ?_)
  ⟨RowG.cellsAll_len Cr.len x.ss,crs_src q3,crs_one x.ss⟩ ⟨RowG.cellsAll_len SeenR.N.len x.es,rws_src SeenR.N.len q4,?_⟩ (fun a c W h=>h) (fun a c W h=>h)).mono ?_
 ·rintro v W W' ⟨a,c,a',c',e,h1,h2⟩ hb
  exact ⟨a,c,a',c',e,h1.below hb,RowG.own_below h2 hb⟩
 ·rintro v b W W' ⟨a,c,a',c',e,h1,h2⟩ hv hg
  exact ⟨a,c,a',c',e,MsO.vb h1 hv hg,own_vb h2 hv (by decide) hg⟩
 ·rintro v v' n ys W W' ⟨a,c,a',c',e,h1,h2⟩ ho hg
  exact ⟨a,c,a',c',e,h1.other ho hg (by decide) (by decide),own_keepO h2 hg (own_apart h2 ho (by decide))⟩
 ·rintro v b W W' ⟨a,c,a',c',e,h1,h2⟩ hg hb
  exact ⟨a,c,a',c',e,h1.far hg hb,own_keepG h2 hg hb⟩
 ·rintro e w' ⟨vm,va,cp,rfl,h1,h2,hb⟩
  obtain ⟨a,c,rfl,_⟩:=h1.mes
  exact ⟨a,c,va,cp,rfl,⟨a,c,va,cp,rfl,h1.low hsz,OwG.own_low h2 hsz⟩,hb⟩
 ·rintro e w' ⟨v,rfl,h1,hb⟩
  obtain ⟨a,c,rfl,_⟩:=h1.dcs
  exact ⟨a,c,rfl,h1.low hsz,hb⟩
 ·intro u hu
  obtain ⟨y,_,hy⟩:=List.mem_flatMap.1 hu
  simp only [SeenR.N.cells,List.mem_cons,List.not_mem_nil,or_false] at hy
  rcases hy with rfl|rfl|rfl<;>rfl
 ·rintro e w' ⟨xa,xc,ya,yc,za,zc,pa,pc,ta,tc,ra,rc,rfl,⟨a,c,a',c',e1,h1,h2⟩,h3,h4,h5,h6,hb⟩
  cases e1
  refine ⟨xa,xc,ya,yc,za,zc,pa,pc,ra,rc,ta,tc,rfl,?_,own_crsT h3 rfl,?_,hb⟩
  ·rcases own_k h3 with q|⟨g,e,hg,hp⟩
   ·exact .inl q
   ·exact .inr ⟨g,e,by omega,hp⟩
  ·intro W2 hW2 k g hk hza
   subst hza
   have hgr:=grown_set W2 g (k*2+1) (.int .i64 m)
   have b3:=RowG.own_below h3 hW2
   have b4:=own_wrT b3 (k*2+1) (.int .i64 m)
   rw [set_crA] at b4
   have hl:(x.ss.set k ⟨(x.ss.getD k Cr.zero).a,m⟩).length=x.ss.length:=List.length_set
   rw [←hl] at b4
   have ap:∀{base e' size n:Nat} {u:Value} {ys:List Value},W2.ownsRow base e' size u n ys→63≠e'→(W2.setCell ⟨g,k*2+1,none⟩ (.int .i64 m)).ownsRow base e' size u n ys:=fun h hn=>own_keepO h hgr (own_apart h b3 hn)
   have c1:=h1.below hW2
   have c5:=h5.below hW2
   have c6:=h6.below hW2
   refine ⟨xa,xc,ya,yc,some ⟨g,0,none⟩,zc,pa,pc,ra,rc,ta,tc,?_,?_,?_,?_,?_,?_,?_⟩
   ·unfold ecells turn
    simp only [List.length_set]
   ·obtain ⟨lim,xs,y1,y2,y3,y4,y5⟩:=c1
    exact MsO.low ⟨lim,xs,y1,ap y2 (by decide),fun z hz=>ap (y3 z hz) (by decide),y4,y5⟩ (by omega)
   ·exact OwG.own_low (ap (RowG.own_below h2 hW2) (by decide)) (by omega)
   ·exact OwG.own_low b4 (by omega)
   ·exact OwG.own_low (ap (RowG.own_below h4 hW2) (by decide)) (by omega)
   ·obtain ⟨xs,y1,y2,y3⟩:=c5
    exact ⟨xs,y1,OwG.own_low (ap y2 (by decide)) (by omega),fun z hz=>⟨OwG.own_low (ap (y3 z hz).1 (by decide)) (by omega),OwG.own_low (ap (y3 z hz).2 (by decide)) (by omega)⟩⟩
   ·obtain ⟨xs,y1,y2,y3,y4⟩:=c6
    exact LedR.DsO.low ⟨xs,y1,ap y2 (by decide),fun z hz=>ap (y3 z hz) (by decide),y4⟩ (by omega)
theorem spec_tk (val:Value) (x:Eng) (v:Int) (a:ByteArray) (m:Int) (w:World) (hS:x.Small) (hE:IsEng val x w)
 (hv:0≤x.fr→x.fr≤2760→∀W,Below w.heap.size w W→Calls Tryz.prog 59 #[.int .i64 x.fr] W fun e w'=>e=.returned (.int .i64 v)∧Below W.heap.size W w') :
 Calls Tryz.prog 5 #[val,.string a,.int .i64 m] w fun e w'=>∃v',e=.returned v'∧EoR (tkD x v a m) v' w'∧Below w.heap.size w w':=by
 have hE':=hE
 obtain ⟨ma,mc,ca,cc,sa,sc,ea,ec,ua,uc,da,dc,rfl,q1,q2,q3,q4,q5,q6⟩:=hE'
 refine stick_in ma _ mc ca _ cc sa _ sc ea _ ec ua _ uc da _ dc x.fr a m (engB x v) x.ss (fun k lo v' W=>EgT (turn x k m) lo v' W) _ w hS.sl ?_ ?_ ?_ ?_ ?_ ?_ ?_ ?_
 ·exact fun W hW=>spec_eng _ x v W hS (hE.below hW) (fun a b W2 h2=>hv a b W2 (hW.trans (h2.mono hW.size)))
 ·exact fun hb W hW=>scopy_tk ma mc ca cc sa sc ea ec ua uc da dc x m W hS (eng_ok hb) (q1.below hW) (q2.below hW) (q3.below hW) (q4.below hW) (q5.below hW) (q6.below hW)
 ·exact fun k lo v' W W' g h hg hl=>h.far hg hl
 ·intro h w' hb
  rw [tk_ill2 h]
  exact ⟨_,rfl,(eoq_ill 2 hb.size).reads,hb⟩
 ·intro h h1 w' hb
  rw [tk_ill1 h h1]
  exact ⟨_,rfl,(eoq_ill 1 hb.size).reads,hb⟩
 ·intro h h1 h2 w' hb
  have hk:¬six x.ss a<x.ss.length:=by rw [six_no h2];omega
  rw [tk_ill6 h h1 hk]
  exact ⟨_,rfl,(eoq_ill 6 hb.size).reads,hb⟩
 ·intro h h1 k hk hn he h3 w' hb
  have h6:=six_at hk hn he
  have hm:=(eng_ok h1).sm k hk
  rw [tk_ill8 h h1 (by rw [h6];exact hk) (by rw [h6];omega)]
  exact ⟨_,rfl,(eoq_ill 8 hb.size).reads,hb⟩
 ·intro h h1 k hk hn he h3 h4 xa xc ya yc za zc pa pc ra rc ta tc lo w' hR hb
  have h6:=six_at hk hn he
  rw [tk_ok h h1 (by rw [h6];exact hk) (by rw [h6];omega),h6]
  refine ⟨_,rfl,⟨xa,xc,ya,yc,za,zc,pa,pc,ra,rc,ta,tc,?_,?_⟩,hb⟩
  ·unfold eoV turn
   simp only [List.length_set]
  ·have e:(Value.agg (ecells (turn x k m) xa xc ya yc za zc pa pc ra rc ta tc))=.agg #[.slice xa x.c.ms.length xc,.slice ya x.c.cs.length yc,.slice za x.ss.length zc,.slice pa x.es.length pc,.slice ra x.ws.length rc,.slice ta x.ds.length tc,.int .i64 x.fr]:=by
    unfold ecells turn
    simp only [List.length_set]
   rw [e]
   exact hR.eng
end EngR
end Go.Proofs.YtnceeaccbcfopaaGreatDoor
