/-
  A right catalog copied by the program: impl.copyCatalog.
  The conditions stand in what each theorem says.
-/
import Derived.Deep.RegionHeld3
import Derived.OwnWalk
import Derived.Test.YtnceeaccbcfopaaGreatDoorT18
set_option maxRecDepth 100000
set_option maxHeartbeats 16000000
namespace Go.Proofs.YtnceeaccbcfopaaGreatDoor
open Go.ChangeShapes Go.WideShapes Go.ChangeAt Go.RowKit
set_option linter.unusedVariables false
set_option linter.unusedSimpArgs false
namespace CatR
open OwG
open RowG (cellsAll)
open EvtR (Pt)
open DocR (BlkW)
theorem blkW_alloc {b:Nat} {cs:List Value} {w:World} (h:BlkW b cs w) (o:Obj):BlkW b cs (w.alloc o):=h.below (al_ _ _)
theorem caB_iffC {c:Ca}:caB c=true↔MsRight c.ms∧CsRight c.cs:=by
 unfold caB
 rw [Bool.and_eq_true]
 exact and_congr (by unfold msB;exact @decide_eq_true_iff _ (MsRightDec _)) (by unfold csB;exact @decide_eq_true_iff _ (CsRightDec _))
theorem nm_le {s:ByteArray} (h:NameR.nameB s=true):s.size≤20:=by
 by_cases hn:s.size≤20
 ·exact hn
 ·have:=NameR.name_size (s:=s) (.inr (by omega))
  rw [h] at this
  cases this
theorem step_append_c {P:Program} {w:World} {ops:Array Oper} {o:Oper} {a:Act} {K:Act→World→Prop} {Q:Exit→Act→World→Prop} {E:Prop} (hgd:o.guard=none) (s x:Operand) (t:TypeId)
 (ho:o.op=.call {callee:=.builtin .append,args:=#[s,x],argTypes:=#[t,t]})
 (base:Nat) (e:TypeId) (i:TypeInfo) (z:Value) (size bytes:Nat) (ht:P.underlying t=some (.slice e)) (hi:P.info? e=some i) (hz:i.zero=some z)
 (hsize:i.size=size) (hby:i.bytes=bytes) (hzs:z.cells.size=size) (hsz:0<size)
 (v:Value) (n:Nat) (xs:List Value) (hs:a.eval s=v) (hown:w.ownsRow base e size v n xs)
 (ad:Addr) (m c:Nat) (news:List Value) (hx:a.eval x=.slice (some ad) m c) (hl:news.length=m*size) (hnews:∀j u,news[j]? = some u→w.cell? (ad.add j)=some u) (h1:∀u∈news,u.oneCell'=true)
 (h63:n+m≤maxLen) (hbytes:(n+m)*bytes≤140737488355328) (hbase:base≤w.heap.size)
 (h:∀v' w',w'.ownsRow base e size v' (n+m) (xs++news)→w.grownBy w' v.ownBlock→(v'=.slice none 0 0↔v=.slice none 0 0∧m=0)→K (a.put o.dst v') w'):if Region.wanted o (yielded ops a.tmps)=true then Oper.wp P o a w K Q else E:=by
 have hw:Region.wanted o (yielded ops a.tmps)=true:=by simp [Region.wanted,hgd]
 rw [if_pos hw]
 exact wp_append_own w s x t ho base e i z size bytes ht hi hz hsize hby hzs hsz v n xs hs hown ad m c news hx hl hnews h1 h63 hbytes hbase h
theorem s6 {p:Nat} {a b c d e f:Value} {W:World} (h:Blk p [a,b,c,d,e,f] W):p<W.heap.size∧W.cell? ⟨p,0,none⟩=some a∧W.cell? ⟨p,1,none⟩=some b∧W.cell? ⟨p,2,none⟩=some c∧W.cell? ⟨p,3,none⟩=some d∧W.cell? ⟨p,4,none⟩=some e∧W.cell? ⟨p,5,none⟩=some f:=⟨h.1,h.2 0 (by simp),h.2 1 (by simp),h.2 2 (by simp),h.2 3 (by simp),h.2 4 (by simp),h.2 5 (by simp)⟩
theorem s2 {p:Nat} {a b:Value} {W:World} (h:Blk p [a,b] W):p<W.heap.size∧W.cell? ⟨p,0,none⟩=some a∧W.cell? ⟨p,1,none⟩=some b:=⟨h.1,h.2 0 (by simp),h.2 1 (by simp)⟩
theorem me_facts {m:Me} (h:MRight m):m.n.size≤20∧1≤m.ts.length∧m.ts.length≤5:=by
 refine ⟨?_,h.2.2.2.2.1,h.2.2.2.2.2.1⟩
 exact nm_le h.1
def CpO (w:World) (c:Ca) (e:Ending) (w':World):Prop:=∃vm va cp,e=.returned (.agg #[vm,.slice va c.cs.length cp])∧MsO w.heap.size vm c.ms w'∧w'.ownsRow w.heap.size 151 2 (.slice va c.cs.length cp) c.cs.length (cellsAll Cr.cells c.cs)∧Below w.heap.size w w'
theorem icopy_m (ma:Option Addr) (mc:Nat) (ca:Option Addr) (cc:Nat) (c:Ca) (w:World) (hc:caB c=true) (hM:Mes ma c.ms.length c.ms w) (hC:Crs ca c.cs.length c.cs w) :
 Calls Tryz.prog 76 #[.agg #[.slice ma c.ms.length mc,.slice ca c.cs.length cc]] w fun e w'=>CpO w c e w':=by
 obtain ⟨i0,hi,hz0,hz1,hz2⟩:=info_parts infoMe
 obtain ⟨j0,gi,gz0,gz1,gz2⟩:=info_parts infoCr
 obtain ⟨⟨m6,hmr⟩,⟨c6,hcr⟩⟩:=caB_iffC.1 hc
 obtain ⟨ms,cs⟩:=c
 dsimp only at *
 obtain ⟨W0,hW0⟩:∃W0,W0=((w.alloc (.cells #[.slice ma ms.length mc,.slice ca cs.length cc] 36)).alloc (.cells #[.slice none 0 0,.slice none 0 0] 36)).alloc (.cells #[.slice none 0 0,.slice none 0 0] 36):=⟨_,rfl⟩
 have hb0:Below w.heap.size w W0:=by rw [hW0];exact ((al_ _ _).alloc (by simp) _).alloc (by simp;omega) _
 have HA0:Hid (BlkW w.heap.size [.slice ma ms.length mc,.slice ca cs.length cc] W0):=H_ (by rw [hW0];exact blkW_alloc (blkW_alloc (BlkW.new w [.slice ma ms.length mc,.slice ca cs.length cc] 36) _) _)
 have HR0:Hid (BlkW (w.heap.size+1) [.slice none 0 0,.slice none 0 0] W0):=H_ (by
  rw [hW0]
  have:=blkW_alloc (BlkW.new (w.alloc (.cells #[.slice ma ms.length mc,.slice ca cs.length cc] 36)) [.slice none 0 0,.slice none 0 0] 36) (.cells #[.slice none 0 0,.slice none 0 0] 36)
  simpa using this)
 have HO0:Hid (BlkW (w.heap.size+1+1) [.slice none 0 0,.slice none 0 0] W0):=H_ (by
  rw [hW0]
  have:=BlkW.new ((w.alloc (.cells #[.slice ma ms.length mc,.slice ca cs.length cc] 36)).alloc (.cells #[.slice none 0 0,.slice none 0 0] 36)) [.slice none 0 0,.slice none 0 0] 36
  simpa using this)
 have hs0:w.heap.size+3≤W0.heap.size:=by rw [hW0];simp
 obtain ⟨bV,hbV⟩:∃z,z=w.heap.size+1+1:=⟨_,rfl⟩
 rw [←hbV] at HO0
 obtain ⟨bR,hbR⟩:∃z,z=w.heap.size+1:=⟨_,rfl⟩
 rw [←hbR] at HR0
 have hlo:w.heap.size<bR:=by omega
 have hlo2:bR<bV:=by omega
 have HBV:=H_ hbV
 have HBR:=H_ hbR
 have gsz3:0<2:=by omega
 have gsz6:0<6:=by omega
 have HW:=H_ hW0
 have HB0:=H_ hb0
 have HM:=H_ hM
 have HC:=H_ hC
 have HMR:=H_ hmr
 have HCR:=H_ hcr
 obtain ⟨ml,hml⟩:∃n,n=ms.length:=⟨_,rfl⟩
 obtain ⟨cl,hcl⟩:∃n,n=cs.length:=⟨_,rfl⟩
 rw [←hml] at HA0 m6 ⊢
 rw [←hcl] at HA0 c6 ⊢
 have HML:=H_ hml
 have HCL:=H_ hcl
 rw [←hml,←hcl] at HW
 clear hW0 hb0 hM hC hmr hcr hml hcl hbV hbR hs0
 go_enter Tryz.func76,Tryz.ntmps76
 go_wp2_with fail
 rw [←HW.out,←HBV.out,←HBR.out]
 clear HW HBV HBR
 go_loopw [11] (fun z wr=>∃(k:Nat) (va:Option Addr) (vc:Nat),k≤ml∧z=.int .i64 k∧Hid (MsO (bV+1) (.slice va k vc) (ms.take k) wr)∧Hid (BlkW bV [.slice va k vc,.slice none 0 0] wr)∧Hid (BlkW w.heap.size [.slice ma ml mc,.slice ca cl cc] wr)∧Hid (BlkW bR [.slice none 0 0,.slice none 0 0] wr)∧Hid (Below w.heap.size w wr)) (fun z _=>ml-(intOf z).toNat)
 case atStart=>exact ⟨0,none,0,by omega,rfl,H_ (mso_nil _ _),HO0,HA0,HR0,HB0⟩
 case round =>
  clear HO0 HA0 HR0 HB0
  obtain ⟨k,va,vc,hk,rfl,HM0,HV,HA,HR,HB⟩:=hrel
  by_cases hlt:k<ml
  ·have hlt2:(k:Int)<(ml:Int):=by omega
   have hkl:k<ms.length:=by have:=HML.out;omega
   obtain ⟨b,off,rfl,hbl0,ta,tc,c0,c1,c2,c3,c4,c5,hT⟩:=mes_at (HM.out.below HB.out) k (by have:=HML.out;omega)
   have hright:=(HMR.out k hkl).1
   obtain ⟨r1,r5,r6⟩:=me_facts hright
   have HTK:=H_ (RowG.take_more (z:=Me.zero) ms k hkl)
   have HTL:Hid ((ms.take k).length=k):=H_ (by rw [List.length_take];omega)
   generalize ms.getD k Me.zero=X at *
   obtain ⟨b',off',hta⟩:∃b' off',ta=some ⟨b',off',none⟩:=by
    rcases hT.2 with h0|⟨b',off',e,_⟩
    ·omega
    ·exact ⟨b',off',e⟩
   subst hta
   have HCP:=H_ (fun W (hb:Below wr.heap.size wr W)=>copy_meO b' off' tc X W r5 r6 (by omega) (hT.below hb))
   have HME:=H_ (me_one X)
   have sz1:k+1≤maxLen:=by unfold maxLen;omega
   have sz2:(k+1)*72≤140737488355328:=by omega
   have HVB:Hid (∀x,(Value.slice va k vc).ownBlock=some x→x<wr.heap.size):=H_ (fun x e=>by
    obtain ⟨xs,_,x2,_⟩:=HM0.out.lim
    exact (x2.lt x e).2)
   have a0:=HA.out.1.2 0 (by simp)
   clear hT hright
   go_wp2_with fail
   have hZ0:Below wr.heap.size wr (wr.alloc (Obj.cells #[.string X.n,.int .i64 X.g,.bool X.wh,.int .i64 X.f,.int .i64 X.l,.slice (some ⟨b',off',none⟩) X.ts.length tc] 150)).drew:=(al_ wr (Obj.cells #[.string X.n,.int .i64 X.g,.bool X.wh,.int .i64 X.f,.int .i64 X.l,.slice (some ⟨b',off',none⟩) X.ts.length tc] 150)).drew
   have hB0:=HB.out.trans (hZ0.mono HB.out.size)
   have hA0:=HA.out.below hZ0
   have hR0:=HR.out.below hZ0
   have hV0:=HV.out.below hZ0
   have hM0:=HM0.out.lim.below hZ0
   have hX0:BlkW wr.heap.size [.string X.n,.int .i64 X.g,.bool X.wh,.int .i64 X.f,.int .i64 X.l,.slice (some ⟨b',off',none⟩) X.ts.length tc] (wr.alloc (Obj.cells #[.string X.n,.int .i64 X.g,.bool X.wh,.int .i64 X.f,.int .i64 X.l,.slice (some ⟨b',off',none⟩) X.ts.length tc] 150)).drew:=(BlkW.new wr [.string X.n,.int .i64 X.g,.bool X.wh,.int .i64 X.f,.int .i64 X.l,.slice (some ⟨b',off',none⟩) X.ts.length tc] 150).below (Below.refl _ _).drew
   obtain ⟨L0,hL0⟩:∃z,z=wr.heap.size:=⟨_,rfl⟩
   have hbl:bV+1≤L0:=by have:=HV.out.1.1;omega
   have hL1:L0≤(wr.alloc (Obj.cells #[.string X.n,.int .i64 X.g,.bool X.wh,.int .i64 X.f,.int .i64 X.l,.slice (some ⟨b',off',none⟩) X.ts.length tc] 150)).drew.heap.size:=by rw [hL0];exact hZ0.size
   rw [←hL0] at hM0 hX0 HVB ⊢
   clear hL0
   have hS0:=s6 hX0.1
   refine wp_region_held_drew (S:=(fun W=>L0<W.heap.size∧W.cell? ⟨L0,0,none⟩=some (.string X.n)∧W.cell? ⟨L0,1,none⟩=some (.int .i64 X.g)∧W.cell? ⟨L0,2,none⟩=some (.bool X.wh)∧W.cell? ⟨L0,3,none⟩=some (.int .i64 X.f)∧W.cell? ⟨L0,4,none⟩=some (.int .i64 X.l)∧W.cell? ⟨L0,5,none⟩=some (.slice (some ⟨b',off',none⟩) X.ts.length tc))) (by kernel_rfl) hS0 (fun hHeld=>?_)
   generalize (wr.alloc (Obj.cells #[.string X.n,.int .i64 X.g,.bool X.wh,.int .i64 X.f,.int .i64 X.l,.slice (some ⟨b',off',none⟩) X.ts.length tc] 150)).drew=kd at *
   refine tk 0 ?_
   refine tk 2 ?_
   refine rd2 1 3 (fun K hK=>?_) (fun K hK=>?_)
   ·have c6:=hV0.1.2 0 (by simp)
    have l6:=hV0.1.1
    simp only [List.getElem?_cons_zero,List.getElem?_cons_succ] at c6
    go_simp
    try go_wp2_with fail
    refine hK.out _ _ hS0 (fun _=>?_)
    clear hK K
    try simp only [Act.put,SL]
    clear c6 l6
    refine rd 3 (fun K hK=>?_)
    go_simp
    go_at_call 132
    refine (HCP.out _ hZ0).mono ?_
    rintro e q1 ⟨ta,tq,rfl,hNz,hb1⟩
    try go_wp2_with fail
    have hB1:=hB0.trans (hb1.mono hB0.size)
    have hM1:=hM0.below hb1
    have hN1:=own_low hNz hL1
    clear hNz
    have hA1:=hA0.below hb1
    have hR1:=hR0.below hb1
    have hV1:=hV0.below hb1
    have hX1:=hX0.below hb1
    have hS1:=s6 hX1.1
    refine hK.out _ _ hS1 (fun _=>?_)
    clear hK K
    try simp only [Act.put,SL]
    refine rd 4 (fun K hK=>?_)
    go_simp
    try go_wp2_with fail
    have hB2:=hB1.alloc hB1.size (Obj.cells #[.string X.n,.int .i64 X.g,.bool X.wh,.int .i64 X.f,.int .i64 X.l,.slice ta X.ts.length tq] 150)
    have hA2:=hA1.below (al_ q1 (Obj.cells #[.string X.n,.int .i64 X.g,.bool X.wh,.int .i64 X.f,.int .i64 X.l,.slice ta X.ts.length tq] 150))
    have hR2:=hR1.below (al_ q1 (Obj.cells #[.string X.n,.int .i64 X.g,.bool X.wh,.int .i64 X.f,.int .i64 X.l,.slice ta X.ts.length tq] 150))
    have hV2:=hV1.below (al_ q1 (Obj.cells #[.string X.n,.int .i64 X.g,.bool X.wh,.int .i64 X.f,.int .i64 X.l,.slice ta X.ts.length tq] 150))
    have hX2:=hX1.below (al_ q1 (Obj.cells #[.string X.n,.int .i64 X.g,.bool X.wh,.int .i64 X.f,.int .i64 X.l,.slice ta X.ts.length tq] 150))
    have hM2:=hM1.below (al_ q1 (Obj.cells #[.string X.n,.int .i64 X.g,.bool X.wh,.int .i64 X.f,.int .i64 X.l,.slice ta X.ts.length tq] 150))
    have hN2:=RowG.own_below hN1 (al_ q1 (Obj.cells #[.string X.n,.int .i64 X.g,.bool X.wh,.int .i64 X.f,.int .i64 X.l,.slice ta X.ts.length tq] 150))
    have hS2:=s6 hX2.1
    have hnw:∀j u,([.string X.n,.int .i64 X.g,.bool X.wh,.int .i64 X.f,.int .i64 X.l,.slice ta X.ts.length tq]:List Value)[j]? = some u→(q1.alloc (Obj.cells #[.string X.n,.int .i64 X.g,.bool X.wh,.int .i64 X.f,.int .i64 X.l,.slice ta X.ts.length tq] 150)).cell? ((⟨q1.heap.size,0,none⟩:Addr).add j)=some u:=new_cells q1 [.string X.n,.int .i64 X.g,.bool X.wh,.int .i64 X.f,.int .i64 X.l,.slice ta X.ts.length tq] 150
    refine hK.out _ _ hS2 (fun _=>?_)
    clear hK K
    try simp only [Act.put,SL]
    obtain ⟨bN,hbN⟩:∃z,z=q1.heap.size:=⟨_,rfl⟩
    rw [←hbN] at hnw ⊢
    obtain ⟨k2,hk2⟩:∃z,z=q1.alloc (Obj.cells #[.string X.n,.int .i64 X.g,.bool X.wh,.int .i64 X.f,.int .i64 X.l,.slice ta X.ts.length tq] 150):=⟨_,rfl⟩
    rw [←hk2] at hnw hN2 hB2 hA2 hR2 hV2 hX2 hS2 hM2 ⊢
    clear hbN hk2
    refine rd 5 (fun K hK=>?_)
    obtain ⟨xs,x1,x2,x3,x4,x5⟩:=hM2
    have x2':=x2
    rw [HTL.out] at x2'
    refine step_append_c rfl _ _ 33 rfl (bV+1) 150 i0 (.agg #[.string ⟨#[]⟩,.int .i64 0,.bool false,.int .i64 0,.int .i64 0,.slice none 0 0]) 6 72 Tryz.underlying33 hi hz0 hz1 hz2 rfl gsz6 _ _ _ rfl x2' ⟨bN,0,none⟩ 1 1 [.string X.n,.int .i64 X.g,.bool X.wh,.int .i64 X.f,.int .i64 X.l,.slice ta X.ts.length tq] rfl rfl hnw (HME.out ta tq) sz1 sz2 (hV2.1.1) ?_
    intro v9 w9 hown hgrow hne
    have hB3:=hB2.grown hgrow hB2.size (fun _ e=>by have:=(x2'.lt _ e).1;omega)
    have hA3:=blkW_grown hA2 hgrow (fun e=>by have:=(x2'.lt _ e.symm).1;omega)
    have hR3:=blkW_grown hR2 hgrow (fun e=>by have:=(x2'.lt _ e.symm).1;omega)
    have hV3:=blkW_grown hV2 hgrow (fun e=>by have:=(x2'.lt _ e.symm).1;omega)
    have hX3:=blkW_grown hX2 hgrow (fun e=>by have:=HVB.out _ e.symm;omega)
    have hS3:=s6 hX3.1
    have hM3:MsO (bV+1) v9 (ms.take (k+1)) w9:=by
     rw [HTK.out]
     exact mso_snoc x1 x3 x4 x5 hbl hN2 x2 hgrow (by rw [HTL.out];exact hown)
    obtain ⟨sb,sc,rfl⟩:=own_form hown
    clear hown hgrow hne hnw x1 x2 x3 x4 x5 x2'
    refine hK.out _ _ hS3 (fun _=>?_)
    clear hK K
    try simp only [Act.put,SL]
    refine tk 6 ?_
    refine rd 7 (fun K hK=>?_)
    have c6:=hV3.1.2 0 (by simp)
    have l6:=hV3.1.1
    have f6:=hV3.2 0 (by simp)
    simp only [List.getElem?_cons_zero,List.getElem?_cons_succ] at c6
    go_simp
    try go_wp2_with fail
    have hg:=RowG.grown_set w9 bV 0 (.slice (some ⟨sb,0,none⟩) (k+1) sc)
    have hB9:=hB3.setCell (show w.heap.size≤(⟨bV,0,none⟩:Addr).block by simp;omega) (.slice (some ⟨sb,0,none⟩) (k+1) sc)
    have hA9:=blkW_grown hA3 hg (by simp;omega)
    have hR9:=blkW_grown hR3 hg (by simp;omega)
    have hX9:=blkW_grown hX3 hg (by simp;omega)
    have hS9:=s6 hX9.1
    have hV9:=hV3.set 0 (.slice (some ⟨sb,0,none⟩) (k+1) sc) (by simp)
    simp only [List.set_cons_zero,List.set_cons_succ] at hV9
    have hM9:=hM3.far hg (by omega)
    refine hK.out _ _ hS9 (fun _=>?_)
    clear hK K
    try simp only [Act.put,SL]
    generalize (w9.setCell ⟨bV,0,none⟩ (.slice (some ⟨sb,0,none⟩) (k+1) sc))=kk at *
    refine wpAnyH_done (by kernel_rfl) ?_ _
    have HB9:=H_ hB9
    have HA9:=H_ hA9
    have HR9:=H_ hR9
    have HV9:=H_ hV9
    have HM9:=H_ hM9
    clear hB9 hA9 hR9 hV9 hM9 hX9 hS9 hg c6 l6 f6
    go_wp2_with fail
    go_roundw
    case rel=>exact ⟨k+1,some ⟨sb,0,none⟩,sc,by omega,by go_num,HM9,HV9,HA9,HR9,HB9⟩
    case measure=>simp [intOf];omega
   ·go_simp
    go_at_call 132
    refine (HCP.out _ hZ0).mono ?_
    rintro e q1 ⟨ta,tq,rfl,hNz,hb1⟩
    try go_wp2_with fail
    have hB1:=hB0.trans (hb1.mono hB0.size)
    have hM1:=hM0.below hb1
    have hN1:=own_low hNz hL1
    clear hNz
    have hA1:=hA0.below hb1
    have hR1:=hR0.below hb1
    have hV1:=hV0.below hb1
    have hX1:=hX0.below hb1
    have hS1:=s6 hX1.1
    refine hK.out _ _ hS1 (fun _=>?_)
    clear hK K
    try simp only [Act.put,SL]
    refine rd2 1 4 (fun K hK=>?_) (fun K hK=>?_)
    ·have c6:=hV1.1.2 0 (by simp)
     have l6:=hV1.1.1
     simp only [List.getElem?_cons_zero,List.getElem?_cons_succ] at c6
     go_simp
     try go_wp2_with fail
     refine hK.out _ _ hS1 (fun _=>?_)
     clear hK K
     try simp only [Act.put,SL]
     clear c6 l6
     refine rd 4 (fun K hK=>?_)
     go_simp
     try go_wp2_with fail
     have hB2:=hB1.alloc hB1.size (Obj.cells #[.string X.n,.int .i64 X.g,.bool X.wh,.int .i64 X.f,.int .i64 X.l,.slice ta X.ts.length tq] 150)
     have hA2:=hA1.below (al_ q1 (Obj.cells #[.string X.n,.int .i64 X.g,.bool X.wh,.int .i64 X.f,.int .i64 X.l,.slice ta X.ts.length tq] 150))
     have hR2:=hR1.below (al_ q1 (Obj.cells #[.string X.n,.int .i64 X.g,.bool X.wh,.int .i64 X.f,.int .i64 X.l,.slice ta X.ts.length tq] 150))
     have hV2:=hV1.below (al_ q1 (Obj.cells #[.string X.n,.int .i64 X.g,.bool X.wh,.int .i64 X.f,.int .i64 X.l,.slice ta X.ts.length tq] 150))
     have hX2:=hX1.below (al_ q1 (Obj.cells #[.string X.n,.int .i64 X.g,.bool X.wh,.int .i64 X.f,.int .i64 X.l,.slice ta X.ts.length tq] 150))
     have hM2:=hM1.below (al_ q1 (Obj.cells #[.string X.n,.int .i64 X.g,.bool X.wh,.int .i64 X.f,.int .i64 X.l,.slice ta X.ts.length tq] 150))
     have hN2:=RowG.own_below hN1 (al_ q1 (Obj.cells #[.string X.n,.int .i64 X.g,.bool X.wh,.int .i64 X.f,.int .i64 X.l,.slice ta X.ts.length tq] 150))
     have hS2:=s6 hX2.1
     have hnw:∀j u,([.string X.n,.int .i64 X.g,.bool X.wh,.int .i64 X.f,.int .i64 X.l,.slice ta X.ts.length tq]:List Value)[j]? = some u→(q1.alloc (Obj.cells #[.string X.n,.int .i64 X.g,.bool X.wh,.int .i64 X.f,.int .i64 X.l,.slice ta X.ts.length tq] 150)).cell? ((⟨q1.heap.size,0,none⟩:Addr).add j)=some u:=new_cells q1 [.string X.n,.int .i64 X.g,.bool X.wh,.int .i64 X.f,.int .i64 X.l,.slice ta X.ts.length tq] 150
     refine hK.out _ _ hS2 (fun _=>?_)
     clear hK K
     try simp only [Act.put,SL]
     obtain ⟨bN,hbN⟩:∃z,z=q1.heap.size:=⟨_,rfl⟩
     rw [←hbN] at hnw ⊢
     obtain ⟨k2,hk2⟩:∃z,z=q1.alloc (Obj.cells #[.string X.n,.int .i64 X.g,.bool X.wh,.int .i64 X.f,.int .i64 X.l,.slice ta X.ts.length tq] 150):=⟨_,rfl⟩
     rw [←hk2] at hnw hN2 hB2 hA2 hR2 hV2 hX2 hS2 hM2 ⊢
     clear hbN hk2
     refine rd 5 (fun K hK=>?_)
     obtain ⟨xs,x1,x2,x3,x4,x5⟩:=hM2
     have x2':=x2
     rw [HTL.out] at x2'
     refine step_append_c rfl _ _ 33 rfl (bV+1) 150 i0 (.agg #[.string ⟨#[]⟩,.int .i64 0,.bool false,.int .i64 0,.int .i64 0,.slice none 0 0]) 6 72 Tryz.underlying33 hi hz0 hz1 hz2 rfl gsz6 _ _ _ rfl x2' ⟨bN,0,none⟩ 1 1 [.string X.n,.int .i64 X.g,.bool X.wh,.int .i64 X.f,.int .i64 X.l,.slice ta X.ts.length tq] rfl rfl hnw (HME.out ta tq) sz1 sz2 (hV2.1.1) ?_
     intro v9 w9 hown hgrow hne
     have hB3:=hB2.grown hgrow hB2.size (fun _ e=>by have:=(x2'.lt _ e).1;omega)
     have hA3:=blkW_grown hA2 hgrow (fun e=>by have:=(x2'.lt _ e.symm).1;omega)
     have hR3:=blkW_grown hR2 hgrow (fun e=>by have:=(x2'.lt _ e.symm).1;omega)
     have hV3:=blkW_grown hV2 hgrow (fun e=>by have:=(x2'.lt _ e.symm).1;omega)
     have hX3:=blkW_grown hX2 hgrow (fun e=>by have:=HVB.out _ e.symm;omega)
     have hS3:=s6 hX3.1
     have hM3:MsO (bV+1) v9 (ms.take (k+1)) w9:=by
      rw [HTK.out]
      exact mso_snoc x1 x3 x4 x5 hbl hN2 x2 hgrow (by rw [HTL.out];exact hown)
     obtain ⟨sb,sc,rfl⟩:=own_form hown
     clear hown hgrow hne hnw x1 x2 x3 x4 x5 x2'
     refine hK.out _ _ hS3 (fun _=>?_)
     clear hK K
     try simp only [Act.put,SL]
     refine tk 6 ?_
     refine rd 7 (fun K hK=>?_)
     have c6:=hV3.1.2 0 (by simp)
     have l6:=hV3.1.1
     have f6:=hV3.2 0 (by simp)
     simp only [List.getElem?_cons_zero,List.getElem?_cons_succ] at c6
     go_simp
     try go_wp2_with fail
     have hg:=RowG.grown_set w9 bV 0 (.slice (some ⟨sb,0,none⟩) (k+1) sc)
     have hB9:=hB3.setCell (show w.heap.size≤(⟨bV,0,none⟩:Addr).block by simp;omega) (.slice (some ⟨sb,0,none⟩) (k+1) sc)
     have hA9:=blkW_grown hA3 hg (by simp;omega)
     have hR9:=blkW_grown hR3 hg (by simp;omega)
     have hX9:=blkW_grown hX3 hg (by simp;omega)
     have hS9:=s6 hX9.1
     have hV9:=hV3.set 0 (.slice (some ⟨sb,0,none⟩) (k+1) sc) (by simp)
     simp only [List.set_cons_zero,List.set_cons_succ] at hV9
     have hM9:=hM3.far hg (by omega)
     refine hK.out _ _ hS9 (fun _=>?_)
     clear hK K
     try simp only [Act.put,SL]
     generalize (w9.setCell ⟨bV,0,none⟩ (.slice (some ⟨sb,0,none⟩) (k+1) sc))=kk at *
     refine wpAnyH_done (by kernel_rfl) ?_ _
     have HB9:=H_ hB9
     have HA9:=H_ hA9
     have HR9:=H_ hR9
     have HV9:=H_ hV9
     have HM9:=H_ hM9
     clear hB9 hA9 hR9 hV9 hM9 hX9 hS9 hg c6 l6 f6
     go_wp2_with fail
     go_roundw
     case rel=>exact ⟨k+1,some ⟨sb,0,none⟩,sc,by omega,by go_num,HM9,HV9,HA9,HR9,HB9⟩
     case measure=>simp [intOf];omega
    ·go_simp
     try go_wp2_with fail
     have hB2:=hB1.alloc hB1.size (Obj.cells #[.string X.n,.int .i64 X.g,.bool X.wh,.int .i64 X.f,.int .i64 X.l,.slice ta X.ts.length tq] 150)
     have hA2:=hA1.below (al_ q1 (Obj.cells #[.string X.n,.int .i64 X.g,.bool X.wh,.int .i64 X.f,.int .i64 X.l,.slice ta X.ts.length tq] 150))
     have hR2:=hR1.below (al_ q1 (Obj.cells #[.string X.n,.int .i64 X.g,.bool X.wh,.int .i64 X.f,.int .i64 X.l,.slice ta X.ts.length tq] 150))
     have hV2:=hV1.below (al_ q1 (Obj.cells #[.string X.n,.int .i64 X.g,.bool X.wh,.int .i64 X.f,.int .i64 X.l,.slice ta X.ts.length tq] 150))
     have hX2:=hX1.below (al_ q1 (Obj.cells #[.string X.n,.int .i64 X.g,.bool X.wh,.int .i64 X.f,.int .i64 X.l,.slice ta X.ts.length tq] 150))
     have hM2:=hM1.below (al_ q1 (Obj.cells #[.string X.n,.int .i64 X.g,.bool X.wh,.int .i64 X.f,.int .i64 X.l,.slice ta X.ts.length tq] 150))
     have hN2:=RowG.own_below hN1 (al_ q1 (Obj.cells #[.string X.n,.int .i64 X.g,.bool X.wh,.int .i64 X.f,.int .i64 X.l,.slice ta X.ts.length tq] 150))
     have hS2:=s6 hX2.1
     have hnw:∀j u,([.string X.n,.int .i64 X.g,.bool X.wh,.int .i64 X.f,.int .i64 X.l,.slice ta X.ts.length tq]:List Value)[j]? = some u→(q1.alloc (Obj.cells #[.string X.n,.int .i64 X.g,.bool X.wh,.int .i64 X.f,.int .i64 X.l,.slice ta X.ts.length tq] 150)).cell? ((⟨q1.heap.size,0,none⟩:Addr).add j)=some u:=new_cells q1 [.string X.n,.int .i64 X.g,.bool X.wh,.int .i64 X.f,.int .i64 X.l,.slice ta X.ts.length tq] 150
     refine hK.out _ _ hS2 (fun _=>?_)
     clear hK K
     try simp only [Act.put,SL]
     obtain ⟨bN,hbN⟩:∃z,z=q1.heap.size:=⟨_,rfl⟩
     rw [←hbN] at hnw ⊢
     obtain ⟨k2,hk2⟩:∃z,z=q1.alloc (Obj.cells #[.string X.n,.int .i64 X.g,.bool X.wh,.int .i64 X.f,.int .i64 X.l,.slice ta X.ts.length tq] 150):=⟨_,rfl⟩
     rw [←hk2] at hnw hN2 hB2 hA2 hR2 hV2 hX2 hS2 hM2 ⊢
     clear hbN hk2
     refine rd 1 (fun K hK=>?_)
     have c6:=hV2.1.2 0 (by simp)
     have l6:=hV2.1.1
     simp only [List.getElem?_cons_zero,List.getElem?_cons_succ] at c6
     go_simp
     try go_wp2_with fail
     refine hK.out _ _ hS2 (fun _=>?_)
     clear hK K
     try simp only [Act.put,SL]
     clear c6 l6
     refine rd 5 (fun K hK=>?_)
     obtain ⟨xs,x1,x2,x3,x4,x5⟩:=hM2
     have x2':=x2
     rw [HTL.out] at x2'
     refine step_append_c rfl _ _ 33 rfl (bV+1) 150 i0 (.agg #[.string ⟨#[]⟩,.int .i64 0,.bool false,.int .i64 0,.int .i64 0,.slice none 0 0]) 6 72 Tryz.underlying33 hi hz0 hz1 hz2 rfl gsz6 _ _ _ rfl x2' ⟨bN,0,none⟩ 1 1 [.string X.n,.int .i64 X.g,.bool X.wh,.int .i64 X.f,.int .i64 X.l,.slice ta X.ts.length tq] rfl rfl hnw (HME.out ta tq) sz1 sz2 (hV2.1.1) ?_
     intro v9 w9 hown hgrow hne
     have hB3:=hB2.grown hgrow hB2.size (fun _ e=>by have:=(x2'.lt _ e).1;omega)
     have hA3:=blkW_grown hA2 hgrow (fun e=>by have:=(x2'.lt _ e.symm).1;omega)
     have hR3:=blkW_grown hR2 hgrow (fun e=>by have:=(x2'.lt _ e.symm).1;omega)
     have hV3:=blkW_grown hV2 hgrow (fun e=>by have:=(x2'.lt _ e.symm).1;omega)
     have hX3:=blkW_grown hX2 hgrow (fun e=>by have:=HVB.out _ e.symm;omega)
     have hS3:=s6 hX3.1
     have hM3:MsO (bV+1) v9 (ms.take (k+1)) w9:=by
      rw [HTK.out]
      exact mso_snoc x1 x3 x4 x5 hbl hN2 x2 hgrow (by rw [HTL.out];exact hown)
     obtain ⟨sb,sc,rfl⟩:=own_form hown
     clear hown hgrow hne hnw x1 x2 x3 x4 x5 x2'
     refine hK.out _ _ hS3 (fun _=>?_)
     clear hK K
     try simp only [Act.put,SL]
     refine tk 6 ?_
     refine rd 7 (fun K hK=>?_)
     have c6:=hV3.1.2 0 (by simp)
     have l6:=hV3.1.1
     have f6:=hV3.2 0 (by simp)
     simp only [List.getElem?_cons_zero,List.getElem?_cons_succ] at c6
     go_simp
     try go_wp2_with fail
     have hg:=RowG.grown_set w9 bV 0 (.slice (some ⟨sb,0,none⟩) (k+1) sc)
     have hB9:=hB3.setCell (show w.heap.size≤(⟨bV,0,none⟩:Addr).block by simp;omega) (.slice (some ⟨sb,0,none⟩) (k+1) sc)
     have hA9:=blkW_grown hA3 hg (by simp;omega)
     have hR9:=blkW_grown hR3 hg (by simp;omega)
     have hX9:=blkW_grown hX3 hg (by simp;omega)
     have hS9:=s6 hX9.1
     have hV9:=hV3.set 0 (.slice (some ⟨sb,0,none⟩) (k+1) sc) (by simp)
     simp only [List.set_cons_zero,List.set_cons_succ] at hV9
     have hM9:=hM3.far hg (by omega)
     refine hK.out _ _ hS9 (fun _=>?_)
     clear hK K
     try simp only [Act.put,SL]
     generalize (w9.setCell ⟨bV,0,none⟩ (.slice (some ⟨sb,0,none⟩) (k+1) sc))=kk at *
     refine wpAnyH_done (by kernel_rfl) ?_ _
     have HB9:=H_ hB9
     have HA9:=H_ hA9
     have HR9:=H_ hR9
     have HV9:=H_ hV9
     have HM9:=H_ hM9
     clear hB9 hA9 hR9 hV9 hM9 hX9 hS9 hg c6 l6 f6
     go_wp2_with fail
     go_roundw
     case rel=>exact ⟨k+1,some ⟨sb,0,none⟩,sc,by omega,by go_num,HM9,HV9,HA9,HR9,HB9⟩
     case measure=>simp [intOf];omega
  ·have hlt2:¬(k:Int)<(ml:Int):=by omega
   obtain rfl:k=ml:=by omega
   have HTE:Hid (ms.take k=ms):=H_ (by rw [HML.out];exact List.take_length)
   rw [HTE.out] at HM0
   clear HTE
   have a1:=HA.out.1.2 1 (by simp)
   have al:=HA.out.1.1
   simp only [List.getElem?_cons_zero,List.getElem?_cons_succ] at a1
   go_wp2_with fail
   clear a1 al
   go_loopw [26] (fun z wr=>∃(i:Nat) (ua:Option Addr) (uc:Nat),i≤cl∧z=.int .i64 i∧Hid (wr.ownsRow (bV+1) 151 2 (.slice ua i uc) i (cellsAll Cr.cells (cs.take i)))∧Hid (MsO (bV+1) (.slice va k vc) ms wr)∧Hid (BlkW bV [.slice va k vc,.slice ua i uc] wr)∧Hid (BlkW w.heap.size [.slice ma k mc,.slice ca cl cc] wr)∧Hid (BlkW bR [.slice none 0 0,.slice none 0 0] wr)∧Hid (Below w.heap.size w wr)) (fun z _=>cl-(intOf z).toNat)
   case atStart=>exact ⟨0,none,0,by omega,rfl,H_ (World.ownsRow_nil _ _ _ _),HM0,HV,HA,HR,HB⟩
   case round =>
    clear HM0 HV HA HR HB
    obtain ⟨i,ua,uc,hk2,rfl,HO,HM0,HV,HA,HR,HB⟩:=hrel
    by_cases hlt3:i<cl
    ·have hlt4:(i:Int)<(cl:Int):=by omega
     have hil:i<cs.length:=by have:=HCL.out;omega
     obtain ⟨b,off,rfl,hbl0,c0,c1⟩:=crs_at (HC.out.below HB.out) i (by have:=HCL.out;omega)
     have hnm:=(HCR.out i hil).1.1
     unfold cA at hnm
     have r1:=nm_le hnm
     have HTK:=H_ (RowG.take_more (z:=Cr.zero) cs i hil)
     generalize cs.getD i Cr.zero=Y at *
     have HCL2:=H_ (fun W=>CloneR.clone_any Y.a W (by omega))
     have sz1:i+1≤maxLen:=by unfold maxLen;omega
     have sz2:(i+1)*24≤140737488355328:=by omega
     have HVB:Hid (∀x,(Value.slice ua i uc).ownBlock=some x→x<wr.heap.size):=H_ (fun x e=>(HO.out.lt x e).2)
     clear hnm
     go_wp2_with fail
     have hZ0:Below wr.heap.size wr (wr.alloc (Obj.cells #[.string Y.a,.int .i64 Y.m] 151)).drew:=(al_ wr (Obj.cells #[.string Y.a,.int .i64 Y.m] 151)).drew
     have hB0:=HB.out.trans (hZ0.mono HB.out.size)
     have hA0:=HA.out.below hZ0
     have hR0:=HR.out.below hZ0
     have hV0:=HV.out.below hZ0
     have hM0:=HM0.out.below hZ0
     have hO0:=RowG.own_below HO.out hZ0
     have hX0:BlkW wr.heap.size [.string Y.a,.int .i64 Y.m] (wr.alloc (Obj.cells #[.string Y.a,.int .i64 Y.m] 151)).drew:=(BlkW.new wr [.string Y.a,.int .i64 Y.m] 151).below (Below.refl _ _).drew
     obtain ⟨L0,hL0⟩:∃z,z=wr.heap.size:=⟨_,rfl⟩
     have hbl:bV+1≤L0:=by have:=HV.out.1.1;omega
     rw [←hL0] at hX0 HVB ⊢
     clear hL0
     have hS0:=s2 hX0.1
     refine wp_region_held_drew (S:=(fun W=>L0<W.heap.size∧W.cell? ⟨L0,0,none⟩=some (.string Y.a)∧W.cell? ⟨L0,1,none⟩=some (.int .i64 Y.m))) (by kernel_rfl) hS0 (fun hHeld=>?_)
     generalize (wr.alloc (Obj.cells #[.string Y.a,.int .i64 Y.m] 151)).drew=kd at *
     refine tk 0 ?_
     refine tk 2 ?_
     refine tk 3 ?_
     refine tk 5 ?_
     refine tk 6 ?_
     refine rd2 1 4 (fun K hK=>?_) (fun K hK=>?_)
     ·have c6:=hV0.1.2 1 (by simp)
      have l6:=hV0.1.1
      simp only [List.getElem?_cons_zero,List.getElem?_cons_succ] at c6
      go_simp
      try go_wp2_with fail
      refine hK.out _ _ hS0 (fun _=>?_)
      clear hK K
      try simp only [Act.put,SL]
      clear c6 l6
      refine rd 4 (fun K hK=>?_)
      go_simp
      go_at_call 133
      refine (HCL2.out _).mono ?_
      rintro e q1 ⟨rfl,hb1⟩
      try go_wp2_with fail
      have hB1:=hB0.trans (hb1.mono hB0.size)
      have hM1:=hM0.below hb1
      have hO1:=RowG.own_below hO0 hb1
      have hA1:=hA0.below hb1
      have hR1:=hR0.below hb1
      have hV1:=hV0.below hb1
      have hX1:=hX0.below hb1
      have hS1:=s2 hX1.1
      refine hK.out _ _ hS1 (fun _=>?_)
      clear hK K
      try simp only [Act.put,SL]
      refine tk 7 ?_
      refine rd 8 (fun K hK=>?_)
      go_simp
      try go_wp2_with fail
      have hB2:=hB1.alloc hB1.size (Obj.cells #[.string Y.a,.int .i64 Y.m] 151)
      have hA2:=hA1.below (al_ q1 (Obj.cells #[.string Y.a,.int .i64 Y.m] 151))
      have hR2:=hR1.below (al_ q1 (Obj.cells #[.string Y.a,.int .i64 Y.m] 151))
      have hV2:=hV1.below (al_ q1 (Obj.cells #[.string Y.a,.int .i64 Y.m] 151))
      have hX2:=hX1.below (al_ q1 (Obj.cells #[.string Y.a,.int .i64 Y.m] 151))
      have hM2:=hM1.below (al_ q1 (Obj.cells #[.string Y.a,.int .i64 Y.m] 151))
      have hO2:=RowG.own_below hO1 (al_ q1 (Obj.cells #[.string Y.a,.int .i64 Y.m] 151))
      have hS2:=s2 hX2.1
      have hnw:∀j u,([.string Y.a,.int .i64 Y.m]:List Value)[j]? = some u→(q1.alloc (Obj.cells #[.string Y.a,.int .i64 Y.m] 151)).cell? ((⟨q1.heap.size,0,none⟩:Addr).add j)=some u:=new_cells q1 [.string Y.a,.int .i64 Y.m] 151
      refine hK.out _ _ hS2 (fun _=>?_)
      clear hK K
      try simp only [Act.put,SL]
      obtain ⟨bN,hbN⟩:∃z,z=q1.heap.size:=⟨_,rfl⟩
      rw [←hbN] at hnw ⊢
      obtain ⟨k2,hk2⟩:∃z,z=q1.alloc (Obj.cells #[.string Y.a,.int .i64 Y.m] 151):=⟨_,rfl⟩
      rw [←hk2] at hnw hB2 hA2 hR2 hV2 hX2 hS2 hM2 hO2 ⊢
      clear hbN hk2
      refine rd 9 (fun K hK=>?_)
      refine step_append_c rfl _ _ 34 rfl (bV+1) 151 j0 (.agg #[.string ⟨#[]⟩,.int .i64 0]) 2 24 Tryz.underlying34 gi gz0 gz1 gz2 rfl gsz3 _ _ _ rfl hO2 ⟨bN,0,none⟩ 1 1 [.string Y.a,.int .i64 Y.m] rfl rfl hnw (cr_one Y.a Y.m) sz1 sz2 (hV2.1.1) ?_
      intro v9 w9 hown hgrow hne
      have hB3:=hB2.grown hgrow hB2.size (fun _ e=>by have:=(hO2.lt _ e).1;omega)
      have hA3:=blkW_grown hA2 hgrow (fun e=>by have:=(hO2.lt _ e.symm).1;omega)
      have hR3:=blkW_grown hR2 hgrow (fun e=>by have:=(hO2.lt _ e.symm).1;omega)
      have hV3:=blkW_grown hV2 hgrow (fun e=>by have:=(hO2.lt _ e.symm).1;omega)
      have hX3:=blkW_grown hX2 hgrow (fun e=>by have:=HVB.out _ e.symm;omega)
      have hS3:=s2 hX3.1
      have hM3:=hM2.other hO2 hgrow (by decide) (by decide)
      have hO3:w9.ownsRow (bV+1) 151 2 v9 (i+1) (cellsAll Cr.cells (cs.take (i+1))):=by
       rw [HTK.out,cellsAll_snoc]
       exact hown
      obtain ⟨sb,sc,rfl⟩:=own_form hown
      clear hown hgrow hne hnw
      refine hK.out _ _ hS3 (fun _=>?_)
      clear hK K
      try simp only [Act.put,SL]
      refine tk 10 ?_
      refine rd 11 (fun K hK=>?_)
      have c6:=hV3.1.2 1 (by simp)
      have l6:=hV3.1.1
      have f6:=hV3.2 1 (by simp)
      simp only [List.getElem?_cons_zero,List.getElem?_cons_succ] at c6
      go_simp
      try go_wp2_with fail
      have hg:=RowG.grown_set w9 bV 1 (.slice (some ⟨sb,0,none⟩) (i+1) sc)
      have hB9:=hB3.setCell (show w.heap.size≤(⟨bV,1,none⟩:Addr).block by simp;omega) (.slice (some ⟨sb,0,none⟩) (i+1) sc)
      have hA9:=blkW_grown hA3 hg (by simp;omega)
      have hR9:=blkW_grown hR3 hg (by simp;omega)
      have hX9:=blkW_grown hX3 hg (by simp;omega)
      have hS9:=s2 hX9.1
      have hV9:=hV3.set 1 (.slice (some ⟨sb,0,none⟩) (i+1) sc) (by simp)
      simp only [List.set_cons_zero,List.set_cons_succ] at hV9
      have hM9:=hM3.far hg (by omega)
      have hO9:=own_keepG hO3 hg (by omega)
      refine hK.out _ _ hS9 (fun _=>?_)
      clear hK K
      try simp only [Act.put,SL]
      generalize (w9.setCell ⟨bV,1,none⟩ (.slice (some ⟨sb,0,none⟩) (i+1) sc))=kk at *
      refine wpAnyH_done (by kernel_rfl) ?_ _
      have HB9:=H_ hB9
      have HA9:=H_ hA9
      have HR9:=H_ hR9
      have HV9:=H_ hV9
      have HM9:=H_ hM9
      have HO9:=H_ hO9
      clear hB9 hA9 hR9 hV9 hM9 hO9 hX9 hS9 hg c6 l6 f6
      go_wp2_with fail
      go_roundw
      case rel=>exact ⟨i+1,some ⟨sb,0,none⟩,sc,by omega,by go_num,HO9,HM9,HV9,HA9,HR9,HB9⟩
      case measure=>simp [intOf];omega
     ·go_simp
      go_at_call 133
      refine (HCL2.out _).mono ?_
      rintro e q1 ⟨rfl,hb1⟩
      try go_wp2_with fail
      have hB1:=hB0.trans (hb1.mono hB0.size)
      have hM1:=hM0.below hb1
      have hO1:=RowG.own_below hO0 hb1
      have hA1:=hA0.below hb1
      have hR1:=hR0.below hb1
      have hV1:=hV0.below hb1
      have hX1:=hX0.below hb1
      have hS1:=s2 hX1.1
      refine hK.out _ _ hS1 (fun _=>?_)
      clear hK K
      try simp only [Act.put,SL]
      refine tk 7 ?_
      refine rd2 1 8 (fun K hK=>?_) (fun K hK=>?_)
      ·have c6:=hV1.1.2 1 (by simp)
       have l6:=hV1.1.1
       simp only [List.getElem?_cons_zero,List.getElem?_cons_succ] at c6
       go_simp
       try go_wp2_with fail
       refine hK.out _ _ hS1 (fun _=>?_)
       clear hK K
       try simp only [Act.put,SL]
       clear c6 l6
       refine rd 8 (fun K hK=>?_)
       go_simp
       try go_wp2_with fail
       have hB2:=hB1.alloc hB1.size (Obj.cells #[.string Y.a,.int .i64 Y.m] 151)
       have hA2:=hA1.below (al_ q1 (Obj.cells #[.string Y.a,.int .i64 Y.m] 151))
       have hR2:=hR1.below (al_ q1 (Obj.cells #[.string Y.a,.int .i64 Y.m] 151))
       have hV2:=hV1.below (al_ q1 (Obj.cells #[.string Y.a,.int .i64 Y.m] 151))
       have hX2:=hX1.below (al_ q1 (Obj.cells #[.string Y.a,.int .i64 Y.m] 151))
       have hM2:=hM1.below (al_ q1 (Obj.cells #[.string Y.a,.int .i64 Y.m] 151))
       have hO2:=RowG.own_below hO1 (al_ q1 (Obj.cells #[.string Y.a,.int .i64 Y.m] 151))
       have hS2:=s2 hX2.1
       have hnw:∀j u,([.string Y.a,.int .i64 Y.m]:List Value)[j]? = some u→(q1.alloc (Obj.cells #[.string Y.a,.int .i64 Y.m] 151)).cell? ((⟨q1.heap.size,0,none⟩:Addr).add j)=some u:=new_cells q1 [.string Y.a,.int .i64 Y.m] 151
       refine hK.out _ _ hS2 (fun _=>?_)
       clear hK K
       try simp only [Act.put,SL]
       obtain ⟨bN,hbN⟩:∃z,z=q1.heap.size:=⟨_,rfl⟩
       rw [←hbN] at hnw ⊢
       obtain ⟨k2,hk2⟩:∃z,z=q1.alloc (Obj.cells #[.string Y.a,.int .i64 Y.m] 151):=⟨_,rfl⟩
       rw [←hk2] at hnw hB2 hA2 hR2 hV2 hX2 hS2 hM2 hO2 ⊢
       clear hbN hk2
       refine rd 9 (fun K hK=>?_)
       refine step_append_c rfl _ _ 34 rfl (bV+1) 151 j0 (.agg #[.string ⟨#[]⟩,.int .i64 0]) 2 24 Tryz.underlying34 gi gz0 gz1 gz2 rfl gsz3 _ _ _ rfl hO2 ⟨bN,0,none⟩ 1 1 [.string Y.a,.int .i64 Y.m] rfl rfl hnw (cr_one Y.a Y.m) sz1 sz2 (hV2.1.1) ?_
       intro v9 w9 hown hgrow hne
       have hB3:=hB2.grown hgrow hB2.size (fun _ e=>by have:=(hO2.lt _ e).1;omega)
       have hA3:=blkW_grown hA2 hgrow (fun e=>by have:=(hO2.lt _ e.symm).1;omega)
       have hR3:=blkW_grown hR2 hgrow (fun e=>by have:=(hO2.lt _ e.symm).1;omega)
       have hV3:=blkW_grown hV2 hgrow (fun e=>by have:=(hO2.lt _ e.symm).1;omega)
       have hX3:=blkW_grown hX2 hgrow (fun e=>by have:=HVB.out _ e.symm;omega)
       have hS3:=s2 hX3.1
       have hM3:=hM2.other hO2 hgrow (by decide) (by decide)
       have hO3:w9.ownsRow (bV+1) 151 2 v9 (i+1) (cellsAll Cr.cells (cs.take (i+1))):=by
        rw [HTK.out,cellsAll_snoc]
        exact hown
       obtain ⟨sb,sc,rfl⟩:=own_form hown
       clear hown hgrow hne hnw
       refine hK.out _ _ hS3 (fun _=>?_)
       clear hK K
       try simp only [Act.put,SL]
       refine tk 10 ?_
       refine rd 11 (fun K hK=>?_)
       have c6:=hV3.1.2 1 (by simp)
       have l6:=hV3.1.1
       have f6:=hV3.2 1 (by simp)
       simp only [List.getElem?_cons_zero,List.getElem?_cons_succ] at c6
       go_simp
       try go_wp2_with fail
       have hg:=RowG.grown_set w9 bV 1 (.slice (some ⟨sb,0,none⟩) (i+1) sc)
       have hB9:=hB3.setCell (show w.heap.size≤(⟨bV,1,none⟩:Addr).block by simp;omega) (.slice (some ⟨sb,0,none⟩) (i+1) sc)
       have hA9:=blkW_grown hA3 hg (by simp;omega)
       have hR9:=blkW_grown hR3 hg (by simp;omega)
       have hX9:=blkW_grown hX3 hg (by simp;omega)
       have hS9:=s2 hX9.1
       have hV9:=hV3.set 1 (.slice (some ⟨sb,0,none⟩) (i+1) sc) (by simp)
       simp only [List.set_cons_zero,List.set_cons_succ] at hV9
       have hM9:=hM3.far hg (by omega)
       have hO9:=own_keepG hO3 hg (by omega)
       refine hK.out _ _ hS9 (fun _=>?_)
       clear hK K
       try simp only [Act.put,SL]
       generalize (w9.setCell ⟨bV,1,none⟩ (.slice (some ⟨sb,0,none⟩) (i+1) sc))=kk at *
       refine wpAnyH_done (by kernel_rfl) ?_ _
       have HB9:=H_ hB9
       have HA9:=H_ hA9
       have HR9:=H_ hR9
       have HV9:=H_ hV9
       have HM9:=H_ hM9
       have HO9:=H_ hO9
       clear hB9 hA9 hR9 hV9 hM9 hO9 hX9 hS9 hg c6 l6 f6
       go_wp2_with fail
       go_roundw
       case rel=>exact ⟨i+1,some ⟨sb,0,none⟩,sc,by omega,by go_num,HO9,HM9,HV9,HA9,HR9,HB9⟩
       case measure=>simp [intOf];omega
      ·go_simp
       try go_wp2_with fail
       have hB2:=hB1.alloc hB1.size (Obj.cells #[.string Y.a,.int .i64 Y.m] 151)
       have hA2:=hA1.below (al_ q1 (Obj.cells #[.string Y.a,.int .i64 Y.m] 151))
       have hR2:=hR1.below (al_ q1 (Obj.cells #[.string Y.a,.int .i64 Y.m] 151))
       have hV2:=hV1.below (al_ q1 (Obj.cells #[.string Y.a,.int .i64 Y.m] 151))
       have hX2:=hX1.below (al_ q1 (Obj.cells #[.string Y.a,.int .i64 Y.m] 151))
       have hM2:=hM1.below (al_ q1 (Obj.cells #[.string Y.a,.int .i64 Y.m] 151))
       have hO2:=RowG.own_below hO1 (al_ q1 (Obj.cells #[.string Y.a,.int .i64 Y.m] 151))
       have hS2:=s2 hX2.1
       have hnw:∀j u,([.string Y.a,.int .i64 Y.m]:List Value)[j]? = some u→(q1.alloc (Obj.cells #[.string Y.a,.int .i64 Y.m] 151)).cell? ((⟨q1.heap.size,0,none⟩:Addr).add j)=some u:=new_cells q1 [.string Y.a,.int .i64 Y.m] 151
       refine hK.out _ _ hS2 (fun _=>?_)
       clear hK K
       try simp only [Act.put,SL]
       obtain ⟨bN,hbN⟩:∃z,z=q1.heap.size:=⟨_,rfl⟩
       rw [←hbN] at hnw ⊢
       obtain ⟨k2,hk2⟩:∃z,z=q1.alloc (Obj.cells #[.string Y.a,.int .i64 Y.m] 151):=⟨_,rfl⟩
       rw [←hk2] at hnw hB2 hA2 hR2 hV2 hX2 hS2 hM2 hO2 ⊢
       clear hbN hk2
       refine rd 1 (fun K hK=>?_)
       have c6:=hV2.1.2 1 (by simp)
       have l6:=hV2.1.1
       simp only [List.getElem?_cons_zero,List.getElem?_cons_succ] at c6
       go_simp
       try go_wp2_with fail
       refine hK.out _ _ hS2 (fun _=>?_)
       clear hK K
       try simp only [Act.put,SL]
       clear c6 l6
       refine rd 9 (fun K hK=>?_)
       refine step_append_c rfl _ _ 34 rfl (bV+1) 151 j0 (.agg #[.string ⟨#[]⟩,.int .i64 0]) 2 24 Tryz.underlying34 gi gz0 gz1 gz2 rfl gsz3 _ _ _ rfl hO2 ⟨bN,0,none⟩ 1 1 [.string Y.a,.int .i64 Y.m] rfl rfl hnw (cr_one Y.a Y.m) sz1 sz2 (hV2.1.1) ?_
       intro v9 w9 hown hgrow hne
       have hB3:=hB2.grown hgrow hB2.size (fun _ e=>by have:=(hO2.lt _ e).1;omega)
       have hA3:=blkW_grown hA2 hgrow (fun e=>by have:=(hO2.lt _ e.symm).1;omega)
       have hR3:=blkW_grown hR2 hgrow (fun e=>by have:=(hO2.lt _ e.symm).1;omega)
       have hV3:=blkW_grown hV2 hgrow (fun e=>by have:=(hO2.lt _ e.symm).1;omega)
       have hX3:=blkW_grown hX2 hgrow (fun e=>by have:=HVB.out _ e.symm;omega)
       have hS3:=s2 hX3.1
       have hM3:=hM2.other hO2 hgrow (by decide) (by decide)
       have hO3:w9.ownsRow (bV+1) 151 2 v9 (i+1) (cellsAll Cr.cells (cs.take (i+1))):=by
        rw [HTK.out,cellsAll_snoc]
        exact hown
       obtain ⟨sb,sc,rfl⟩:=own_form hown
       clear hown hgrow hne hnw
       refine hK.out _ _ hS3 (fun _=>?_)
       clear hK K
       try simp only [Act.put,SL]
       refine tk 10 ?_
       refine rd 11 (fun K hK=>?_)
       have c6:=hV3.1.2 1 (by simp)
       have l6:=hV3.1.1
       have f6:=hV3.2 1 (by simp)
       simp only [List.getElem?_cons_zero,List.getElem?_cons_succ] at c6
       go_simp
       try go_wp2_with fail
       have hg:=RowG.grown_set w9 bV 1 (.slice (some ⟨sb,0,none⟩) (i+1) sc)
       have hB9:=hB3.setCell (show w.heap.size≤(⟨bV,1,none⟩:Addr).block by simp;omega) (.slice (some ⟨sb,0,none⟩) (i+1) sc)
       have hA9:=blkW_grown hA3 hg (by simp;omega)
       have hR9:=blkW_grown hR3 hg (by simp;omega)
       have hX9:=blkW_grown hX3 hg (by simp;omega)
       have hS9:=s2 hX9.1
       have hV9:=hV3.set 1 (.slice (some ⟨sb,0,none⟩) (i+1) sc) (by simp)
       simp only [List.set_cons_zero,List.set_cons_succ] at hV9
       have hM9:=hM3.far hg (by omega)
       have hO9:=own_keepG hO3 hg (by omega)
       refine hK.out _ _ hS9 (fun _=>?_)
       clear hK K
       try simp only [Act.put,SL]
       generalize (w9.setCell ⟨bV,1,none⟩ (.slice (some ⟨sb,0,none⟩) (i+1) sc))=kk at *
       refine wpAnyH_done (by kernel_rfl) ?_ _
       have HB9:=H_ hB9
       have HA9:=H_ hA9
       have HR9:=H_ hR9
       have HV9:=H_ hV9
       have HM9:=H_ hM9
       have HO9:=H_ hO9
       clear hB9 hA9 hR9 hV9 hM9 hO9 hX9 hS9 hg c6 l6 f6
       go_wp2_with fail
       go_roundw
       case rel=>exact ⟨i+1,some ⟨sb,0,none⟩,sc,by omega,by go_num,HO9,HM9,HV9,HA9,HR9,HB9⟩
       case measure=>simp [intOf];omega
    ·have hlt4:¬(i:Int)<(cl:Int):=by omega
     obtain rfl:i=cl:=by omega
     have HTE:Hid (cs.take i=cs):=H_ (by rw [HCL.out];exact List.take_length)
     rw [HTE.out] at HO
     clear HTE
     obtain ⟨⟨vl,vk⟩,_⟩:=HV.out
     have v0:=q_ vk 0
     have v1:=q_ vk 1
     obtain ⟨⟨rl,rk⟩,rf⟩:=HR.out
     have p0:=q_ rk 0
     have f0:=rf 0 (by simp)
     have p1:=q_ rk 1
     have f1:=rf 1 (by simp)
     have hg:=StR.stL_grown bR [.slice va k vc,.slice ua i uc] 0 wr
     have HB9:=H_ (HB.out.grown hg HB.out.size (fun _ e=>by cases e;omega))
     have HO9:=H_ (own_keepG HO.out hg (by omega))
     have HM9:=H_ (HM0.out.far hg (by omega))
     simp only [StR.stL,Nat.zero_add] at HB9 HO9 HM9
     clear vk rk rf hg HB HR HV HO HM0
     go_wp2_with fail
     refine bodyPost_ret (v:=.agg #[.slice va k vc,.slice ua i uc]) (by simp [results,Tryz.results76,go_sem,p0,p1]) rfl ⟨_,_,_,by rw [←HCL.out],?_,?_,HB9.out⟩
     ·exact HM9.out.low (by omega)
     ·rw [←HCL.out]
      exact own_low HO9.out (by omega)
end CatR
end Go.Proofs.YtnceeaccbcfopaaGreatDoor
