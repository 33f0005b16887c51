/-
  spec.l08Bill, walked. The conditions: at most 400 windows; the callees' contracts.
-/
import Derived.Test.YtcilbmhkhllmjaaGreatDoorF29
namespace Go.Proofs.YtcilbmhkhllmjaaGreatDoor
open Go.ChangeShapes Go.WideShapes Go.ChangeAt Go.RowKit
set_option linter.unusedVariables false
namespace BilR
open LtR WinR LinR
open RowG (Rws cellsAll own_below getD_mem MadeG made_nil own_made)
open CatR (Blk Blk.new Me Ca mFd MsRight MRight IsCa caB crF crO)
open NetR (put fnd sline)
theorem sill8 (c:Int) (w:World):Calls Tryz.prog 33 #[.int .i64 c] w fun e w'=>e=.returned (.agg #[.slice none 0 0,.int .i64 c])∧Below w.heap.size w w':=by
 go_enter Tryz.func33,Tryz.ntmps33
 go_wp2
 refine bodyPost_ret (v:=.agg #[.slice none 0 0,.int .i64 c]) (by simp [results,Tryz.results33,go_sem]) rfl ⟨rfl,?_⟩
 repeat' first|exact Below.refl _ _|apply Below.setCell|apply Below.alloc
 all_goals first|omega|(simp;done)|(simp;omega)
theorem own_som {α:Type} {k:Nat} {cells:α→List Value} {z:α} {w:World} {base T:Nat} {v:Value} {xs:List α} (hk:∀x,(cells x).length=k) (h:w.ownsRow base T k v xs.length (cellsAll cells xs)) (hn:xs.length≠0):∃g c,v=.slice (some ⟨g,0,none⟩) xs.length c∧Rws k cells z (some ⟨g,0,none⟩) xs w∧xs.length≤c∧c≤maxLen:=by
 obtain ⟨ao,cp,e,hm⟩:=own_made (z:=z) hk h
 rcases h.2 with ⟨h0,h1⟩|⟨g,cap,cur,hv,hbb,_,h1,h2,_⟩
 ·exact absurd h1 hn
 ·rw [hv] at e
  simp only [Value.slice.injEq] at e
  obtain ⟨rfl,_,rfl⟩:=e
  exact ⟨g,cap,hv,hm.rws,h1,h2⟩
theorem win_at {wo:Option Addr} {ps:List WP} {w W:World} (h:Rws 8 WP.cells WP.zero wo ps w) (hb:Below w.heap.size w W) (k:Nat) (hk:k<ps.length):∃b off,wo=some ⟨b,off,none⟩∧b<W.heap.size∧W.cell? ⟨b,off+k*8,none⟩=some (.string (ps.getD k WP.zero).d.a)∧W.cell? ⟨b,off+k*8+1,none⟩=some (.string (ps.getD k WP.zero).d.m):=by
 obtain ⟨b,off,e,hl,hc⟩:=Rws.at (h.below hb) k hk
 exact ⟨b,off,e,hl,hc 0 (by omega),hc 1 (by omega)⟩
theorem own_not {x a:ByteArray}:(x.toList==a.toList)=true∧(x.toList != a.toList)=false∨(x.toList==a.toList)=false∧(x.toList != a.toList)=true:=by
 cases h:(x.toList==a.toList)
 ·right;exact ⟨rfl,by simp [bne,h]⟩
 ·left;exact ⟨rfl,by simp [bne,h]⟩
theorem put_more:∀{L:List N} {x:N},fnd L x.i=false→(put L x).length=L.length+1:=fun {L x} h=>by
 rw [put_insB h]
 exact (insB_perm x L).length_eq.trans rfl
def bls (a:ByteArray) (ps:List WP):List Wd:=(jx a (ps.map WP.d) ps.length).map (fun j=>(ps.map WP.d).getD j Wd.zero)
theorem bls_at {a:ByteArray} {ps:List WP} {q:Nat} (h:q<(nms a (ps.map WP.d) ps.length).length):∃i,i<ps.length∧(nms a (ps.map WP.d) ps.length).getD q N.zero=⟨(ps.getD i WP.zero).d.m,(i:Int)⟩∧ownF a (ps.getD i WP.zero)=true∧q<(bls a ps).length∧(bls a ps).getD q Wd.zero=(ps.getD i WP.zero).d:=by
 unfold nms at h ⊢
 unfold bls
 rw [List.length_map] at h
 have hm:=getD_mem (z:=0) (jx a (ps.map WP.d) ps.length) q h
 obtain ⟨h1,h2⟩:=jx_lt hm
 have hw:(ps.map WP.d).getD ((jx a (ps.map WP.d) ps.length).getD q 0) Wd.zero=(ps.getD ((jx a (ps.map WP.d) ps.length).getD q 0) WP.zero).d:=by
  generalize (jx a (ps.map WP.d) ps.length).getD q 0=i at *
  simp [List.getD,h1]
 have hq:(jx a (ps.map WP.d) ps.length)[q]'h=(jx a (ps.map WP.d) ps.length).getD q 0:=by simp [List.getD,h]
 refine ⟨_,h1,?_,by rw [hw] at h2;exact h2,by rw [List.length_map];exact h,?_⟩
 ·rw [show ((jx a (ps.map WP.d) ps.length).map (mk (ps.map WP.d))).getD q N.zero=mk (ps.map WP.d) ((jx a (ps.map WP.d) ps.length)[q]'h) by simp [List.getD,h],hq]
  unfold mk wm
  rw [hw]
 ·rw [show ((jx a (ps.map WP.d) ps.length).map (fun j=>(ps.map WP.d).getD j Wd.zero)).getD q Wd.zero=(ps.map WP.d).getD ((jx a (ps.map WP.d) ps.length)[q]'h) Wd.zero by simp [List.getD,h],hq]
  exact hw
theorem bls_len (a:ByteArray) (ps:List WP):(bls a ps).length=(nms a (ps.map WP.d) ps.length).length:=by unfold bls nms;rw [List.length_map,List.length_map]
abbrev SQ (W1:World) (B0 Bw b o:Nat) (ma:Option Addr) (ml mc:Nat) (ca:Option Addr) (cl cc:Nat) (xm n:ByteArray) (g:Int) (wh:Bool) (f l:Int) (tb:Option Addr) (tl tc:Nat) (W:World):Prop:=Below W1.heap.size W1 W∧B0<W.heap.size∧Bw<W.heap.size∧b<W.heap.size∧W.cell? ⟨B0,0,none⟩=some (.slice ma ml mc)∧W.cell? ⟨B0,1,none⟩=some (.slice ca cl cc)∧W.cell? ⟨Bw,1,none⟩=some (.string xm)∧W.cell? ⟨b,o,none⟩=some (.string n)∧W.cell? ⟨b,o+1,none⟩=some (.int .i64 g)∧W.cell? ⟨b,o+2,none⟩=some (.bool wh)∧W.cell? ⟨b,o+3,none⟩=some (.int .i64 f)∧W.cell? ⟨b,o+4,none⟩=some (.int .i64 l)∧W.cell? ⟨b,o+5,none⟩=some (.slice tb tl tc)
theorem SQ.of {W1:World} {B0 Bw b o:Nat} {ma:Option Addr} {ml mc:Nat} {ca:Option Addr} {cl cc:Nat} {xm n:ByteArray} {g:Int} {wh:Bool} {f l:Int} {tb:Option Addr} {tl tc:Nat} {W W':World} (h:SQ W1 B0 Bw b o ma ml mc ca cl cc xm n g wh f l tb tl tc W) (h1:B0<W1.heap.size) (h2:Bw<W1.heap.size) (h3:b<W1.heap.size) (hb:Below W1.heap.size W1 W'):SQ W1 B0 Bw b o ma ml mc ca cl cc xm n g wh f l tb tl tc W':=by
 obtain ⟨h0,_,_,_,c⟩:=h
 have e:=fun x o=>(hb.cell (p:=⟨x,o,none⟩))
 have e':=fun x o=>(h0.cell (p:=⟨x,o,none⟩))
 have:=hb.size
 exact ⟨hb,by omega,by omega,by omega,((e _ _ h1).trans (e' _ _ h1).symm).trans c.1,((e _ _ h1).trans (e' _ _ h1).symm).trans c.2.1,((e _ _ h2).trans (e' _ _ h2).symm).trans c.2.2.1,((e _ _ h3).trans (e' _ _ h3).symm).trans c.2.2.2.1,((e _ _ h3).trans (e' _ _ h3).symm).trans c.2.2.2.2.1,((e _ _ h3).trans (e' _ _ h3).symm).trans c.2.2.2.2.2.1,((e _ _ h3).trans (e' _ _ h3).symm).trans c.2.2.2.2.2.2.1,((e _ _ h3).trans (e' _ _ h3).symm).trans c.2.2.2.2.2.2.2.1,((e _ _ h3).trans (e' _ _ h3).symm).trans c.2.2.2.2.2.2.2.2⟩
theorem SQ.byy {W1:World} {B0 Bw b o:Nat} {ma:Option Addr} {ml mc:Nat} {ca:Option Addr} {cl cc:Nat} {xm n:ByteArray} {g:Int} {wh:Bool} {f l:Int} {tb:Option Addr} {tl tc:Nat} {W W':World} (h:SQ W1 B0 Bw b o ma ml mc ca cl cc xm n g wh f l tb tl tc W) (hb:Below W.heap.size W W'):Below W1.heap.size W1 W':=h.1.trans (hb.mono h.1.size)
theorem alB (w:World) (o:Obj):Below w.heap.size w (w.alloc o):=(Below.refl _ _).alloc (Nat.le_refl _) _
theorem b6 {W1 W:World} (h:Below W1.heap.size W1 W) {V:Nat} (hV:W1.heap.size≤V) (x0 x1 x2 x3 x4 x5:Value):Below W1.heap.size W1 ((((((W.setCell ⟨V,0,none⟩ x0).setCell ⟨V,1,none⟩ x1).setCell ⟨V,2,none⟩ x2).setCell ⟨V,3,none⟩ x3).setCell ⟨V,4,none⟩ x4).setCell ⟨V,5,none⟩ x5) :=
 (((((h.setCell (p:=⟨V,0,none⟩) hV x0).setCell (p:=⟨V,1,none⟩) hV x1).setCell (p:=⟨V,2,none⟩) hV x2).setCell (p:=⟨V,3,none⟩) hV x3).setCell (p:=⟨V,4,none⟩) hV x4).setCell (p:=⟨V,5,none⟩) hV x5
abbrev SR (Wm:World) (V Bw:Nat) (n:ByteArray) (g':Int) (wh:Bool) (f l:Int) (tb:Option Addr) (tl tc:Nat) (xa xm:ByteArray) (xo xe xs xx:Int) (ta:Option Addr) (l1 tc1:Nat) (ha:Option Addr) (l2 hc':Nat) (W:World):Prop:=Below Wm.heap.size Wm W∧V<W.heap.size∧Bw<W.heap.size∧W.cell? ⟨V,0,none⟩=some (.string n)∧W.cell? ⟨V,1,none⟩=some (.int .i64 g')∧W.cell? ⟨V,2,none⟩=some (.bool wh)∧W.cell? ⟨V,3,none⟩=some (.int .i64 f)∧W.cell? ⟨V,4,none⟩=some (.int .i64 l)∧W.cell? ⟨V,5,none⟩=some (.slice tb tl tc)∧W.cell? ⟨Bw,0,none⟩=some (.string xa)∧W.cell? ⟨Bw,1,none⟩=some (.string xm)∧W.cell? ⟨Bw,2,none⟩=some (.int .i64 xo)∧W.cell? ⟨Bw,3,none⟩=some (.int .i64 xe)∧W.cell? ⟨Bw,4,none⟩=some (.int .i64 xs)∧W.cell? ⟨Bw,5,none⟩=some (.int .i64 xx)∧W.cell? ⟨Bw,6,none⟩=some (.slice ta l1 tc1)∧W.cell? ⟨Bw,7,none⟩=some (.slice ha l2 hc')
theorem SR.of {Wm:World} {V Bw:Nat} {n:ByteArray} {g':Int} {wh:Bool} {f l:Int} {tb:Option Addr} {tl tc:Nat} {xa xm:ByteArray} {xo xe xs xx:Int} {ta:Option Addr} {l1 tc1:Nat} {ha:Option Addr} {l2 hc':Nat} {W:World} (hV:Blk V [.string n,.int .i64 g',.bool wh,.int .i64 f,.int .i64 l,.slice tb tl tc] Wm) (hX:Blk Bw [.string xa,.string xm,.int .i64 xo,.int .i64 xe,.int .i64 xs,.int .i64 xx,.slice ta l1 tc1,.slice ha l2 hc'] Wm) (hb:Below Wm.heap.size Wm W):SR Wm V Bw n g' wh f l tb tl tc xa xm xo xe xs xx ta l1 tc1 ha l2 hc' W:=by
 have h1:=hV.below hb
 have h2:=hX.below hb
 exact ⟨hb,h1.1,h2.1,h1.2 0 (by simp),h1.2 1 (by simp),h1.2 2 (by simp),h1.2 3 (by simp),h1.2 4 (by simp),h1.2 5 (by simp),h2.2 0 (by simp),h2.2 1 (by simp),h2.2 2 (by simp),h2.2 3 (by simp),h2.2 4 (by simp),h2.2 5 (by simp),h2.2 6 (by simp),h2.2 7 (by simp)⟩
theorem SR.byy {Wm:World} {V Bw:Nat} {n:ByteArray} {g':Int} {wh:Bool} {f l:Int} {tb:Option Addr} {tl tc:Nat} {xa xm:ByteArray} {xo xe xs xx:Int} {ta:Option Addr} {l1 tc1:Nat} {ha:Option Addr} {l2 hc':Nat} {W W':World} (h:SR Wm V Bw n g' wh f l tb tl tc xa xm xo xe xs xx ta l1 tc1 ha l2 hc' W) (hb:Below W.heap.size W W'):Below Wm.heap.size Wm W':=h.1.trans (hb.mono h.1.size)
theorem b3 {W1 W:World} (h:Below W1.heap.size W1 W) {V:Nat} (hV:W1.heap.size≤V) (x0 x1 x2:Value):Below W1.heap.size W1 (((W.setCell ⟨V,0,none⟩ x0).setCell ⟨V,1,none⟩ x1).setCell ⟨V,2,none⟩ x2) :=
 ((h.setCell (p:=⟨V,0,none⟩) hV x0).setCell (p:=⟨V,1,none⟩) hV x1).setCell (p:=⟨V,2,none⟩) hV x2
theorem blk6 {W:World} {g:Nat} {y0 y1 y2 y3 y4 y5:Value} (h:Blk g [y0,y1,y2,y3,y4,y5] W) (u0 u1 u2 u3 u4 u5:Value) :
 Blk g [u0,u1,u2,u3,u4,u5] ((((((W.setCell ⟨g,0,none⟩ u0).setCell ⟨g,1,none⟩ u1).setCell ⟨g,2,none⟩ u2).setCell ⟨g,3,none⟩ u3).setCell ⟨g,4,none⟩ u4).setCell ⟨g,5,none⟩ u5):=by
 have e0:W.cell? ⟨g,0,none⟩=some y0:=h.2 0 (by simp)
 have e1:W.cell? ⟨g,1,none⟩=some y1:=h.2 1 (by simp)
 have e2:W.cell? ⟨g,2,none⟩=some y2:=h.2 2 (by simp)
 have e3:W.cell? ⟨g,3,none⟩=some y3:=h.2 3 (by simp)
 have e4:W.cell? ⟨g,4,none⟩=some y4:=h.2 4 (by simp)
 have e5:W.cell? ⟨g,5,none⟩=some y5:=h.2 5 (by simp)
 refine ⟨by simpa using h.1,fun j hj=>?_⟩
 match j,hj with
 | 0,_=>simp [go_sem,e0]
 | 1,_=>simp [go_sem,e1]
 | 2,_=>simp [go_sem,e2]
 | 3,_=>simp [go_sem,e3]
 | 4,_=>simp [go_sem,e4]
 | 5,_=>simp [go_sem,e5]
theorem blk3 {W:World} {g:Nat} {y0 y1 y2:Value} (h:Blk g [y0,y1,y2] W) (u0 u1 u2:Value) :
 Blk g [u0,u1,u2] (((W.setCell ⟨g,0,none⟩ u0).setCell ⟨g,1,none⟩ u1).setCell ⟨g,2,none⟩ u2):=by
 have e0:W.cell? ⟨g,0,none⟩=some y0:=h.2 0 (by simp)
 have e1:W.cell? ⟨g,1,none⟩=some y1:=h.2 1 (by simp)
 have e2:W.cell? ⟨g,2,none⟩=some y2:=h.2 2 (by simp)
 refine ⟨by simpa using h.1,fun j hj=>?_⟩
 match j,hj with
 | 0,_=>simp [go_sem,e0]
 | 1,_=>simp [go_sem,e1]
 | 2,_=>simp [go_sem,e2]
set_option maxRecDepth 100000 in
set_option maxHeartbeats 1000000 in
theorem sbill_in (ma:Option Addr) (ml mc:Nat) (ca:Option Addr) (cl cc:Nat) (ms:List Me) (a:ByteArray) (wo:Option Addr) (wc:Nat) (ps:List WP) (O:List N × Int) (cr:Int) (r:Nat→Int) (w:World) (hlen:ps.length≤400) (hml:ml≤1048576)
 (hI:Rws 8 WP.cells WP.zero wo ps w)
 (hA:∀k,k<ps.length→∀W,Below w.heap.size w W→Calls Tryz.prog 81 #[.agg #[.slice ma ml mc,.slice ca cl cc],.string (ps.getD k WP.zero).d.m] W fun e w'=>e=.returned (.int .i64 (r k))∧Below W.heap.size W w')
 (e6:∀k,k<ps.length→ownF a (ps.getD k WP.zero)=true→r k<0→O=([],6))
 (e10:(∀k,k<ps.length→ownF a (ps.getD k WP.zero)=true→0≤r k)→∀k,k<ps.length→ownF a (ps.getD k WP.zero)=true→fnd (nms a (ps.map WP.d) k) (ps.getD k WP.zero).d.m=true→O=([],10))
 (hM:∀k,k<ps.length→ownF a (ps.getD k WP.zero)=true→0≤r k→∃(b off i:Nat) (n:ByteArray) (g:Int) (wh:Bool) (f l:Int) (tb:Option Addr) (tl tc:Nat),ma=some ⟨b,off,none⟩∧r k=(i:Int)∧i<ml∧n=(rN ms (ps.getD k WP.zero).d).i ∧
  (∀W,Below w.heap.size w W→b<W.heap.size∧W.cell? ⟨b,off+i*6,none⟩=some (.string n)∧W.cell? ⟨b,off+i*6+1,none⟩=some (.int .i64 g)∧W.cell? ⟨b,off+i*6+2,none⟩=some (.bool wh)∧W.cell? ⟨b,off+i*6+3,none⟩=some (.int .i64 f)∧W.cell? ⟨b,off+i*6+4,none⟩=some (.int .i64 l)∧W.cell? ⟨b,off+i*6+5,none⟩=some (.slice tb tl tc)) ∧
  (∀W,Below w.heap.size w W→Calls Tryz.prog 84 #[.agg (ps.getD k WP.zero).cells.toArray,.int .i64 g] W fun e w'=>e=.returned (.int .i64 (useV ms (ps.getD k WP.zero).d))∧Below W.heap.size W w') ∧
  (∀W,Below w.heap.size w W→Calls Tryz.prog 83 #[.agg #[.string n,.int .i64 g,.bool wh,.int .i64 f,.int .i64 l,.slice tb tl tc],.int .i64 (useV ms (ps.getD k WP.zero).d)] W fun e w'=>e=.returned (.agg #[.int .i64 (rN ms (ps.getD k WP.zero).d).n,.int .i64 0,.int .i64 (rC ms (ps.getD k WP.zero).d)])∧Below W.heap.size W w'))
 (e12:(∀k,k<ps.length→ownF a (ps.getD k WP.zero)=true→0≤r k)→NoTwo a (ps.map WP.d) ps.length→∀q,q<(bls a ps).length→(∀i,i<q→rC ms ((bls a ps).getD i Wd.zero)=0)→rC ms ((bls a ps).getD q Wd.zero)≠0→O=([],rC ms ((bls a ps).getD q Wd.zero)))
 (hCr:∀W,Below w.heap.size w W→Calls Tryz.prog 85 #[.agg #[.slice ma ml mc,.slice ca cl cc],.string a] W fun e w'=>e=.returned (.int .i64 cr)∧Below W.heap.size W w')
 (hD:(∀k,k<ps.length→ownF a (ps.getD k WP.zero)=true→0≤r k)→NoTwo a (ps.map WP.d) ps.length→(∀i,i<(bls a ps).length→rC ms ((bls a ps).getD i Wd.zero)=0)→∀bo cap W,Lis bo (((bls a ps).map (rN ms)).filter nz) W→Calls Tryz.prog 70 #[.slice bo (((bls a ps).map (rN ms)).filter nz).length cap,.int .i64 cr] W fun e w'=>∃ao cap,e=.returned (.slice ao O.1.length cap)∧O.2=0∧MadeG 2 N.cells N.zero W.heap.size ao O.1 w'∧Below W.heap.size W w') :
 Calls Tryz.prog 37 #[.agg #[.slice ma ml mc,.slice ca cl cc],.string a,.slice wo ps.length wc] w fun e w'=>BlO w O e w':=by
 have HI:=H_ hI
 have HA:=H_ hA
 have HE6:=H_ e6
 have HE10:=H_ e10
 have HM:=H_ hM
 have HE12:=H_ e12
 have HCR:=H_ hCr
 have HD:=H_ hD
 clear hI hA e6 e10 hM e12 hCr hD
 obtain ⟨i0,hi,hz0,hz1,hz2⟩:=info_parts infoNL
 obtain ⟨len,hl⟩:∃len,len=ps.length:=⟨_,rfl⟩
 rw [←hl] at hlen HA HE6 HE10 HM HE12 HD ⊢
 have HL:=H_ hl
 clear hl
 obtain ⟨W0,hW0⟩:∃z,z=(w.alloc (.cells #[.slice ma ml mc,.slice ca cl cc] 36)).alloc (.cells #[.slice none 0 0,.int .i64 0] 31):=⟨_,rfl⟩
 have HB0:Hid (Below w.heap.size w W0):=H_ (by rw [hW0];exact ((Below.refl _ _).alloc (Nat.le_refl _) _).alloc (by simp) _)
 have HX0:Hid (Blk w.heap.size [.slice ma ml mc,.slice ca cl cc] W0):=H_ (by rw [hW0];exact (Blk.new w _ _).below ((Below.refl _ _).alloc (Nat.le_refl _) _))
 have HZ0:Hid (Z2 (w.heap.size+1) W0):=H_ (by rw [hW0];have:=Z2.new (w.alloc (.cells #[.slice ma ml mc,.slice ca cl cc] 36)) 31;simpa using this)
 have HW0:=H_ hW0
 clear hW0
 obtain ⟨B1,hB1⟩:∃z,z=w.heap.size+1:=⟨_,rfl⟩
 rw [←hB1] at HZ0
 have HBE:=H_ hB1
 have hBl:w.heap.size≤B1:=by omega
 clear hB1
 have HN0:Hid ((W0.alloc (.cells #[] 58)).ownsRow W0.heap.size 58 2 (.slice (some ⟨W0.heap.size,0,none⟩) 0 0) 0 []):=H_ (LinR.own_empty W0 W0.heap.size _ _ (Nat.le_refl _))
 go_enter Tryz.func37,Tryz.ntmps37
 go_wp2_with fail
 rw [←HW0.out,←HBE.out]
 obtain ⟨W1,hW1⟩:∃z,z=W0.alloc (.cells #[] 58):=⟨_,rfl⟩
 rw [←hW1]
 have HB1:Hid (Below W0.heap.size W0 W1):=H_ (by rw [hW1];exact (Below.refl _ _).alloc (Nat.le_refl _) _)
 clear hW1 HN0 HW0
 obtain ⟨g0,hg0⟩:∃z,z=B1+1:=⟨_,rfl⟩
 rw [←hg0]
 clear hg0
 go_loopw [8] (fun z wr=>∃k:Nat,k≤len∧z=.int .i64 k∧Hid (∀j,j<k→ownF a (ps.getD j WP.zero)=true→0≤r j)∧Hid (Below W0.heap.size W0 wr)) (fun z _=>len-(intOf z).toNat)
 case atStart=>exact ⟨0,by omega,rfl,H_ (fun j hj=>absurd hj (by omega)),HB1⟩
 case round =>
  clear HB1
  obtain ⟨k,hk,rfl,HK,HB⟩:=hrel
  have HBw:=H_ (HB0.out.trans (HB.out.mono HB0.out.size))
  by_cases hlt1:k<len
  ·have hlt2:(k:Int)<(len:Int):=by omega
   obtain ⟨b,off,rfl,hbl,c0,c1⟩:=win_at HI.out HBw.out k (by have:=HL.out;omega)
   have HAk:=H_ (HA.out k hlt1)
   have HE:=H_ (HE6.out k hlt1)
   have HOW:Hid (ownF a (ps.getD k WP.zero)=((ps.getD k WP.zero).d.a.toList==a.toList)):=H_ rfl
   have HK2:Hid ((ownF a (ps.getD k WP.zero)=true→0≤r k)→∀j,j<k+1→ownF a (ps.getD j WP.zero)=true→0≤r j):=H_ (fun h j hj=>by
    rcases Nat.lt_succ_iff_lt_or_eq.1 hj with q|rfl
    ·exact HK.out j q
    ·exact h)
   generalize ownF a (ps.getD k WP.zero)=ow at *
   generalize ps.getD k WP.zero=X at *
   generalize hra:r k=rk at *
   clear hra
   obtain ⟨⟨xa,xm,x3,x4,x5,x6,x7,x8⟩,y1,y2,y3,y4⟩:=X
   dsimp only at *
   rcases own_not (x:=xa) (a:=a) with ⟨q1,q2⟩|⟨q1,q2⟩
   ·obtain rfl:ow=true:=HOW.out.trans q1
    obtain ⟨S,hS⟩:∃S:World→Prop,∀W,S W↔Below wr.heap.size wr W:=⟨_,fun _=>Iff.rfl⟩
    have HSC:Hid (∀s:HW S,Below wr.heap.size wr s.w):=H_ (fun s=>(hS _).1 s.h)
    have HSB:Hid (∀(s:HW S) w',Below s.w.heap.size s.w w'→S w'):=H_ (fun s w' hb=>(hS _).2 ((HSC.out s).trans (hb.mono (HSC.out s).size)))
    have HSD:Hid (S wr.drew):=H_ ((hS _).2 (Below.refl _ _).drew)
    have hne:Nonempty (HW S):=⟨⟨_,HSD.out⟩⟩
    have HXr:=H_ (HX0.out.below HB.out)
    have f0:∀s:HW S,s.w.cell? ⟨w.heap.size,0,none⟩=some (.slice ma ml mc):=fun s=>(HXr.out.below (HSC.out s)).2 0 (by simp)
    have f1:∀s:HW S,s.w.cell? ⟨w.heap.size,1,none⟩=some (.slice ca cl cc):=fun s=>(HXr.out.below (HSC.out s)).2 1 (by simp)
    have d1:∀s:HW S,s.w.cell? ⟨b,off+k*8+1,none⟩=some (.string xm):=fun s=>((HSC.out s).cell (p:=⟨b,_,none⟩) hbl).trans c1
    have HAS:Hid (∀s:HW S,Calls Tryz.prog 81 #[.agg #[.slice ma ml mc,.slice ca cl cc],.string xm] s.w fun e w'=>e=.returned (.int .i64 rk)∧Below s.w.heap.size s.w w'):=H_ (fun s=>HAk.out s.w (HBw.out.trans ((HSC.out s).mono HBw.out.size)))
    clear hS
    go_wp2_with fail
    refine wp_region_hw S (by kernel_rfl) (by kernel_rfl) HSD.out ?_
    repeat (go_big_quiet_step ((rename_i s;go_at_call 81;refine (HAS.out s).mono ?_;rintro e w1 ⟨rfl,hb1⟩;exact ⟨rfl,⟨w1,HSB.out s w1 hb1⟩,rfl⟩)))
    refine wpQuiet_nil ?_
    intro _ hw'
    obtain ⟨s,hw''⟩:=hw'
    subst hw''
    have HBs:=H_ (HB.out.trans ((HSC.out s).mono HB.out.size))
    generalize s.w=ws at *
    clear f0 f1 d1 HAS HSC HSB HSD hne HXr c0 c1 hbl HB HBw HAk
    have HBw:=H_ (HB0.out.trans (HBs.out.mono HB0.out.size))
    by_cases hr:rk<0
    ·obtain rfl:=HE.out (by first|rfl|trivial) hr
     go_wp2_with fail
     refine (sill8 6 _).mono ?_
     rintro e w2 ⟨rfl,hb2⟩
     have HB2:=H_ (HBw.out.trans (hb2.mono HBw.out.size))
     obtain ⟨zl,z0,z1,y0,y1⟩:=(HZ0.out.below HBs.out).below hb2
     clear hb2
     go_wp2_with fail
     refine bodyPost_ret (v:=.agg #[.slice none 0 0,.int .i64 6]) (by simp [results,Tryz.results37,go_sem,z0,z1]) rfl ⟨none,0,rfl,made_nil _ _ _,below2 HB2.out hBl _ _⟩
    ·have HK3:=H_ (HK2.out (fun _=>by omega))
     go_wp2_with fail
     go_roundw
     case rel=>exact ⟨k+1,by omega,by go_num,HK3,HBs⟩
     case measure=>simp [intOf];omega
   ·obtain rfl:ow=false:=HOW.out.trans q1
    go_wp2_with fail
    go_roundw
    case rel=>exact ⟨k+1,by omega,by go_num,H_ (HK2.out (fun h=>by cases h)),HB⟩
    case measure=>simp [intOf];omega
  ·have hlt2:¬(k:Int)<(len:Int):=by omega
   obtain rfl:k=len:=by omega
   have HALL:Hid (∀j,j<k→ownF a (ps.getD j WP.zero)=true→0≤r j):=HK
   have HE:=H_ (HE10.out HALL.out)
   clear HE6 HE10 HK HBw hlt1
   have HNr:Hid (Lis (some ⟨g0,0,none⟩) [] wr):=H_ (.inl rfl)
   go_wp2_with fail
   go_loopw [7,9] (fun v z wr=>∃(q g c:Nat),q≤k∧z=.int .i64 q∧v=.slice (some ⟨g,0,none⟩) (nms a (ps.map WP.d) q).length c∧(nms a (ps.map WP.d) q).length≤q∧(nms a (ps.map WP.d) q).length≤c∧c≤maxLen∧Hid (NoTwo a (ps.map WP.d) q)∧Hid (Lis (some ⟨g,0,none⟩) (nms a (ps.map WP.d) q) wr)∧Hid (Below W0.heap.size W0 wr)) (fun v z _=>k-(intOf z).toNat)
   case atStart=>exact ⟨0,g0,0,by omega,rfl,rfl,Nat.le_refl _,Nat.le_refl _,by unfold maxLen;omega,H_ List.nodup_nil,HNr,HB⟩
   case round =>
    clear HNr HB
    obtain ⟨q,g,c,hq,rfl,rfl,hnq,hnc,hcm,HNT,HN,HB⟩:=hrel
    have HBw:=H_ (HB0.out.trans (HB.out.mono HB0.out.size))
    by_cases hlt1:q<k
    ·have hlt2:(q:Int)<(k:Int):=by omega
     obtain ⟨b,off,rfl,hbl,c0,c1⟩:=win_at HI.out HBw.out q (by have:=HL.out;omega)
     have HEq:=H_ (HE.out q hlt1)
     have HOW:Hid (ownF a (ps.getD q WP.zero)=((ps.getD q WP.zero).d.a.toList==a.toList)):=H_ rfl
     have hwd:(ps.map WP.d).getD q Wd.zero=(ps.getD q WP.zero).d:=by
      have:q<ps.length:=by have:=HL.out;omega
      simp [List.getD,this]
     have HO1:Hid (ownF a (ps.getD q WP.zero)=false→nms a (ps.map WP.d) (q+1)=nms a (ps.map WP.d) q∧NoTwo a (ps.map WP.d) (q+1)):=H_ (fun h=>by
      have h':ownW a ((ps.map WP.d).getD q Wd.zero)=false:=by rw [hwd];exact h
      exact ⟨nms_other h',noTwo_other h' HNT.out⟩)
     have HO2:Hid (ownF a (ps.getD q WP.zero)=true→fnd (nms a (ps.map WP.d) q) (ps.getD q WP.zero).d.m=false→put (nms a (ps.map WP.d) q) ⟨(ps.getD q WP.zero).d.m,(q:Int)⟩=nms a (ps.map WP.d) (q+1)∧NoTwo a (ps.map WP.d) (q+1)):=H_ (fun h hf=>by
      have h':ownW a ((ps.map WP.d).getD q Wd.zero)=true:=by rw [hwd];exact h
      have hm:wm (ps.map WP.d) q=(ps.getD q WP.zero).d.m:=by unfold wm;rw [hwd]
      rw [←hm] at hf
      have:=nms_own h' hf
      unfold mk at this
      rw [hm] at this
      exact ⟨this,noTwo_own h' hf HNT.out⟩)
     generalize nms a (ps.map WP.d) q=L at *
     clear hwd
     generalize ownF a (ps.getD q WP.zero)=ow at *
     generalize ps.getD q WP.zero=X at *
     obtain ⟨⟨xa,xm,x3,x4,x5,x6,x7,x8⟩,y1,y2,y3,y4⟩:=X
     dsimp only at *
     rcases own_not (x:=xa) (a:=a) with ⟨q1,q2⟩|⟨q1,q2⟩
     ·obtain rfl:ow=true:=HOW.out.trans q1
      have HSL:=H_ (sline g 0 c L xm (q:Int) wr (by omega) hnc hcm HN.out)
      clear HO1
      generalize hll:L.length=ll at *
      go_wp2_with fail
      refine HSL.out.mono ?_
      rintro e w2 (⟨hf,rfl,hb2⟩|⟨hf,⟨v,rfl,ho⟩,hb2⟩)
      ·obtain rfl:=HEq.out (by first|rfl|trivial) hf
       rw [hll]
       have HB2:=H_ (HBw.out.trans (hb2.mono HBw.out.size))
       have HZ2:=H_ ((HZ0.out.below HB.out).below hb2)
       clear hb2 HSL HO2
       go_wp2_with fail
       refine (sill8 10 _).mono ?_
       rintro e w3 ⟨rfl,hb3⟩
       have HB3:=H_ (HB2.out.trans (hb3.mono HB2.out.size))
       obtain ⟨zl,z0,z1,y0,y1⟩:=HZ2.out.below hb3
       clear hb3
       go_wp2_with fail
       refine bodyPost_ret (v:=.agg #[.slice none 0 0,.int .i64 10]) (by simp [results,Tryz.results37,go_sem,z0,z1]) rfl ⟨none,0,rfl,made_nil _ _ _,below2 HB3.out hBl _ _⟩
      ·obtain ⟨hp,hnt⟩:=HO2.out (by first|rfl|trivial) hf
       rw [hp] at ho
       have hpl:(nms a (ps.map WP.d) (q+1)).length=ll+1:=by rw [←hp,←hll];exact put_more hf
       obtain ⟨g2,c2,rfl,hn2,hc2,hcm2⟩:=own_som (z:=N.zero) N.len ho (by omega)
       have HHN:=H_ hpl
       have HNT2:=H_ hnt
       have HN2:=H_ hn2
       have HB2:=H_ (HB.out.trans (hb2.mono HB.out.size))
       clear hp hnt ho hpl hn2 hb2 HSL HO2 hf
       rw [HHN.out] at hc2 ⊢
       go_wp2_with fail
       go_roundw
       case rel=>exact ⟨q+1,g2,c2,by omega,by go_num,by rw [HHN.out],by rw [HHN.out];omega,by rw [HHN.out];exact hc2,hcm2,HNT2,HN2,HB2⟩
       case measure=>simp [intOf];omega
     ·obtain rfl:ow=false:=HOW.out.trans q1
      obtain ⟨hn,hnt⟩:=HO1.out (by first|rfl|trivial)
      have HNT2:=H_ hnt
      have HHN:=H_ hn
      clear hnt hn
      go_wp2_with fail
      go_roundw
      case rel=>exact ⟨q+1,g,c,by omega,by go_num,by rw [HHN.out],by rw [HHN.out];omega,by rw [HHN.out];exact hnc,hcm,HNT2,by rw [HHN.out];exact HN,HB⟩
      case measure=>simp [intOf];omega
    ·have hlt2:¬(q:Int)<(k:Int):=by omega
     obtain rfl:q=k:=by omega
     clear HE hlt1 HBw
     obtain ⟨nl,hnl⟩:∃z,z=(nms a (ps.map WP.d) q).length:=⟨_,rfl⟩
     have HNL:=H_ hnl
     rw [←hnl] at hnq hnc ⊢
     clear hnl
     have HN3:=H_ (LinR.own_empty wr wr.heap.size 58 2 (Nat.le_refl _))
     have HBA:Hid (Below wr.heap.size wr (wr.alloc (.cells #[] 58))):=H_ ((Below.refl _ _).alloc (Nat.le_refl _) _)
     obtain ⟨W3,hW3⟩:∃z,z=wr:=⟨_,rfl⟩
     rw [←hW3] at HN HB HN3 HBA
     go_wp2_with fail
     rw [←hW3]
     clear hW3
     go_loopw [12,13] (fun v z wr=>∃j:Nat,j≤nl∧z=.int .i64 j∧Hid (wr.ownsRow W3.heap.size 58 2 v ((((bls a ps).take j).map (rN ms)).filter nz).length (cellsAll N.cells ((((bls a ps).take j).map (rN ms)).filter nz)))∧Hid (∀i,i<j→rC ms ((bls a ps).getD i Wd.zero)=0)∧Hid (Below W3.heap.size W3 wr)) (fun v z _=>nl-(intOf z).toNat)
     case atStart=>exact ⟨0,by omega,rfl,HN3,H_ (fun i h=>absurd h (by omega)),HBA⟩
     case round =>
      clear HN3 HBA
      obtain ⟨j,hj,rfl,HO,HC,HB3⟩:=hrel
      by_cases hlt1:j<nl
      ·have hlt2:(j:Int)<(nl:Int):=by omega
       obtain ⟨i,hip,hgi,hoi,hbl,hbi⟩:=bls_at (a:=a) (ps:=ps) (q:=j) (by rw [←HL.out,←HNL.out];exact hlt1)
       rw [←HL.out] at hgi hip
       have HBr:=H_ (HB.out.trans (HB3.out.mono HB.out.size))
       have HBw:=H_ (HB0.out.trans (HBr.out.mono HB0.out.size))
       obtain ⟨gl,n0,n1⟩:=NetR.lis_two (HN.out.below HB3.out) j (by rw [←HNL.out];exact hlt1)
       rw [hgi] at n1
       simp only [Nat.zero_add] at n1
       have hi2:(i:Int)<(q:Int):=by omega
       obtain ⟨b',off,e0,hbw,hc⟩:∃b off,wo=some ⟨b,off,none⟩∧b<wr.heap.size∧∀x,x<8→wr.cell? ⟨b,off+i*8+x,none⟩=(ps.getD i WP.zero).cells[x]?:=Rws.at (HI.out.below HBw.out) i (by have:=HL.out;omega)
       subst e0
       obtain ⟨b,o,im,n,g',wh,f,l,tb,tl,tc,rfl,hri,him,hn,hmc,hva,hrt⟩:=HM.out i hip hoi (HALL.out i hip hoi)
       have HAt:=H_ (HA.out i hip)
       rw [hri] at HAt
       have HMC:=H_ hmc
       have HVA:=H_ hva
       have HRT:=H_ hrt
       have HNN:=H_ hn
       have HRC:Hid (rC ms ((bls a ps).getD j Wd.zero)=rC ms (ps.getD i WP.zero).d):=H_ (by rw [hbi])
       have HRN:Hid (((bls a ps).take (j+1)).map (rN ms)=((bls a ps).take j).map (rN ms) ++ [rN ms (ps.getD i WP.zero).d]):=H_ (by rw [RowG.take_more (z:=Wd.zero) _ j hbl,List.map_append,hbi];rfl)
       have HJB:=H_ hbl
       clear hgi hoi hbl hbi hmc hva hrt hn hri n0
       generalize ps.getD i WP.zero=X at *
       obtain ⟨⟨xa,xm,xo,xe,xs,xx,xt,xh⟩,ta,tc1,ha,hc'⟩:=X
       have c0:=hc 0 (by omega)
       have c1:=hc 1 (by omega)
       have c2:=hc 2 (by omega)
       have c3:=hc 3 (by omega)
       have c4:=hc 4 (by omega)
       have c5:=hc 5 (by omega)
       have c6:=hc 6 (by omega)
       have c7:=hc 7 (by omega)
       simp only [WP.cells,List.getElem?_cons_zero,List.getElem?_cons_succ,Nat.add_zero] at c0 c1 c2 c3 c4 c5 c6 c7
       simp only [WP.cells] at HVA
       dsimp only at HAt HVA HRT HRC HRN HNN
       clear hc
       generalize hu:useV ms ⟨xa,xm,xo,xe,xs,xx,xt,xh⟩=uv at *
       generalize hrr:rC ms ⟨xa,xm,xo,xe,xs,xx,xt,xh⟩=RC at *
       generalize hrn:rN ms ⟨xa,xm,xo,xe,xs,xx,xt,xh⟩=RN at *
       generalize xt.length=l1 at *
       generalize xh.length=l2 at *
       clear hu hrr hrn
       obtain ⟨W1,hW1⟩:∃z,z=wr.alloc (.cells #[.string xa,.string xm,.int .i64 xo,.int .i64 xe,.int .i64 xs,.int .i64 xx,.slice ta l1 tc1,.slice ha l2 hc'] 74):=⟨_,rfl⟩
       have hal:Below wr.heap.size wr W1:=by rw [hW1];exact (Below.refl _ _).alloc (Nat.le_refl _) _
       have HXw:Hid (Blk wr.heap.size [.string xa,.string xm,.int .i64 xo,.int .i64 xe,.int .i64 xs,.int .i64 xx,.slice ta l1 tc1,.slice ha l2 hc'] W1):=H_ (by rw [hW1];exact Blk.new wr _ _)
       have HB1:=H_ (HB3.out.trans (hal.mono HB3.out.size))
       have HBw1:=H_ (HBw.out.trans (hal.mono HBw.out.size))
       have HO1:=H_ (own_below HO.out hal)
       have HX1:=H_ ((HX0.out.below HBr.out).below hal)
       have HZ1:=H_ ((HZ0.out.below HBr.out).below hal)
       have HW1:=H_ hW1
       clear hal hW1 HO
       obtain ⟨Bw,hBw⟩:∃z,z=wr.heap.size:=⟨_,rfl⟩
       rw [←hBw] at HXw
       go_wp2_with fail
       rw [←HW1.out,←hBw]
       have HBWE:=H_ hBw
       clear HW1 hBw n1 gl c0 c1 c2 c3 c4 c5 c6 c7 hbw
       obtain ⟨ml',m0,m1,m2,m3,m4,m5⟩:=HMC.out W1 HBw1.out
       have hx1l:=HX1.out.1
       have hxwl:=HXw.out.1
       have HS0:Hid (SQ W1 w.heap.size Bw b (o+im*6) (some ⟨b,o,none⟩) ml mc ca cl cc xm n g' wh f l tb tl tc W1):=H_ ⟨Below.refl _ _,hx1l,hxwl,ml',HX1.out.2 0 (by simp),HX1.out.2 1 (by simp),HXw.out.2 1 (by simp),m0,m1,m2,m3,m4,m5⟩
       have HSQ:Hid (∀W,Below W1.heap.size W1 W→SQ W1 w.heap.size Bw b (o+im*6) (some ⟨b,o,none⟩) ml mc ca cl cc xm n g' wh f l tb tl tc W):=H_ (fun W h=>HS0.out.of hx1l hxwl ml' h)
       have HS1:=H_ (HSQ.out _ (Below.refl W1.heap.size W1).drew)
       have him2:(im:Int)<(ml:Int):=by omega
       clear m0 m1 m2 m3 m4 m5
       go_region_held3 (fun W=>Below W1.heap.size W1 W∧w.heap.size<W.heap.size∧Bw<W.heap.size∧b<W.heap.size∧W.cell? ⟨w.heap.size,0,none⟩=some (.slice (some ⟨b,o,none⟩) ml mc)∧W.cell? ⟨w.heap.size,1,none⟩=some (.slice ca cl cc)∧W.cell? ⟨Bw,1,none⟩=some (.string xm)∧W.cell? ⟨b,(o+im*6),none⟩=some (.string n)∧W.cell? ⟨b,(o+im*6)+1,none⟩=some (.int .i64 g')∧W.cell? ⟨b,(o+im*6)+2,none⟩=some (.bool wh)∧W.cell? ⟨b,(o+im*6)+3,none⟩=some (.int .i64 f)∧W.cell? ⟨b,(o+im*6)+4,none⟩=some (.int .i64 l)∧W.cell? ⟨b,(o+im*6)+5,none⟩=some (.slice tb tl tc))
        (first|(with_reducible assumption)|(with_reducible exact HS0.out)|(with_reducible exact HS1.out)|(with_reducible exact HSQ.out _ HB4.out)|(with_reducible exact HSQ.out _ (HB4.out.alloc HB4.out.size _))|(with_reducible exact HSQ.out _ (b6 HB4.out (by first|exact Nat.le_refl _|exact HB4.out.size) _ _ _ _ _ _))|(with_reducible exact HSQ.out _ (SQ.byy (by first|assumption|exact HS1.out|exact HS0.out:SQ W1 w.heap.size Bw b (o+im*6) (some ⟨b,o,none⟩) ml mc ca cl cc xm n g' wh f l tb tl tc _) (alB _ _))))
        (first|(go_at_call 81;refine (HAt.out _ (HBw1.out.trans (Below.mono (by first|exact (by assumption:SQ W1 w.heap.size Bw b (o+im*6) (some ⟨b,o,none⟩) ml mc ca cl cc xm n g' wh f l tb tl tc _).1|exact HS1.out.1|exact HS0.out.1) HBw1.out.size))).mono ?_;rintro e w4 ⟨rfl,hb4⟩;obtain ⟨hcc,hff⟩:=bcell hb4;have hzz:=hb4.size;have HB4:=H_ (SQ.byy (by first|assumption|exact HS1.out|exact HS0.out:SQ W1 w.heap.size Bw b (o+im*6) (some ⟨b,o,none⟩) ml mc ca cl cc xm n g' wh f l tb tl tc _) hb4)))
       all_goals (
        rename_i hS
        have HBm0:=H_ hS.1
        clear hS
        first
         | (
          obtain ⟨Wm,hWm⟩:∃z,z=w4.alloc (.cells #[.string n,.int .i64 g',.bool wh,.int .i64 f,.int .i64 l,.slice tb tl tc] 117):=⟨_,rfl⟩
          obtain ⟨V,hV⟩:∃z,z=w4.heap.size:=⟨_,rfl⟩
          rw [←hWm] at HBm0 ⊢
          have HV:Hid (Blk V [.string n,.int .i64 g',.bool wh,.int .i64 f,.int .i64 l,.slice tb tl tc] Wm):=H_ (by rw [hWm,hV];exact Blk.new w4 _ _)
          rw [←hV])
         | (
          obtain ⟨V,hV⟩:∃z,z=W1.heap.size:=⟨_,rfl⟩
          have hVz:Blk V [.string ⟨#[]⟩,.int .i64 0,.bool false,.int .i64 0,.int .i64 0,.slice none 0 0] w4:=by rw [hV];exact (Blk.new W1.drew _ _).below hb4
          obtain ⟨Wm,hWm⟩:∃z,z=((((((w4.setCell ⟨W1.heap.size,0,none⟩ (.string n)).setCell ⟨W1.heap.size,1,none⟩ (.int .i64 g')).setCell ⟨W1.heap.size,2,none⟩ (.bool wh)).setCell ⟨W1.heap.size,3,none⟩ (.int .i64 f)).setCell ⟨W1.heap.size,4,none⟩ (.int .i64 l)).setCell ⟨W1.heap.size,5,none⟩ (.slice tb tl tc)):=⟨_,rfl⟩
          rw [←hWm] at HBm0 ⊢
          rw [←hV]
          have HV:Hid (Blk V [.string n,.int .i64 g',.bool wh,.int .i64 f,.int .i64 l,.slice tb tl tc] Wm):=H_ (by rw [hWm,←hV];exact blk6 hVz _ _ _ _ _ _)
          clear hVz)
        have HBm:=H_ HBm0.out
        clear HBm0 hWm hV hb4 hcc hff hzz HB4 HS0 HS1 HSQ
        have HB1m:=H_ (HB1.out.trans (HBm.out.mono HB1.out.size))
        have HBwm:=H_ (HBw1.out.trans (HBm.out.mono HBw1.out.size))
        have HOm:=H_ (own_below HO1.out HBm.out)
        have HZm:=H_ (HZ1.out.below HBm.out)
        have HXm:=H_ (HXw.out.below HBm.out)
        have HSR:Hid (∀W,Below Wm.heap.size Wm W→SR Wm V Bw n g' wh f l tb tl tc xa xm xo xe xs xx ta l1 tc1 ha l2 hc' W):=H_ (fun W h=>SR.of HV.out HXm.out h)
        have HS0:=H_ (HSR.out _ (Below.refl _ _))
        have HDm:Hid (Below Wm.heap.size Wm Wm.drew):=H_ (Below.refl _ _).drew
        have HS1:=H_ (HSR.out _ HDm.out)
        clear HBm HO1 HZ1 HX1 HXm HBw1
        go_wp2_with fail
        go_region_held3 (fun W=>Below Wm.heap.size Wm W∧V<W.heap.size∧Bw<W.heap.size∧W.cell? ⟨V,0,none⟩=some (.string n)∧W.cell? ⟨V,1,none⟩=some (.int .i64 g')∧W.cell? ⟨V,2,none⟩=some (.bool wh)∧W.cell? ⟨V,3,none⟩=some (.int .i64 f)∧W.cell? ⟨V,4,none⟩=some (.int .i64 l)∧W.cell? ⟨V,5,none⟩=some (.slice tb tl tc)∧W.cell? ⟨Bw,0,none⟩=some (.string xa)∧W.cell? ⟨Bw,1,none⟩=some (.string xm)∧W.cell? ⟨Bw,2,none⟩=some (.int .i64 xo)∧W.cell? ⟨Bw,3,none⟩=some (.int .i64 xe)∧W.cell? ⟨Bw,4,none⟩=some (.int .i64 xs)∧W.cell? ⟨Bw,5,none⟩=some (.int .i64 xx)∧W.cell? ⟨Bw,6,none⟩=some (.slice ta l1 tc1)∧W.cell? ⟨Bw,7,none⟩=some (.slice ha l2 hc'))
         (first|(with_reducible assumption)|(with_reducible exact HS0.out)|(with_reducible exact HS1.out)|(with_reducible exact HSR.out _ HB6.out)|(with_reducible exact HSR.out _ (HB6.out.alloc HB6.out.size _))|(with_reducible exact HSR.out _ (b3 HB6.out (by first|exact Nat.le_refl _|exact HB5.out.size|exact HB6.out.size) _ _ _))|(with_reducible exact HSR.out _ HB5.out)|(with_reducible exact HSR.out _ (HB5.out.alloc HB5.out.size _))|(with_reducible exact HSR.out _ (HDm.out.alloc HDm.out.size _))|(with_reducible exact HSR.out _ (alB Wm _))|(with_reducible exact HSR.out _ (alB Wm _).drew))
         (first|(go_at_call 84;refine (HVA.out _ (HBwm.out.trans (Below.mono (by first|exact (by assumption:SR Wm V Bw n g' wh f l tb tl tc xa xm xo xe xs xx ta l1 tc1 ha l2 hc' _).1|exact HS1.out.1|exact HS0.out.1) HBwm.out.size))).mono ?_;rintro e w5 ⟨rfl,hb5⟩;obtain ⟨hcc,hff⟩:=bcell hb5;have hzz:=hb5.size;(try (have hz5:Wm.heap.size<w5.heap.size:=by (simp at hzz;omega)));have HB5:=H_ (SR.byy (by first|assumption|exact HS1.out|exact HS0.out:SR Wm V Bw n g' wh f l tb tl tc xa xm xo xe xs xx ta l1 tc1 ha l2 hc' _) hb5))|(go_at_call 83;refine (HRT.out _ (HBwm.out.trans (Below.mono (by first|exact (by assumption:SR Wm V Bw n g' wh f l tb tl tc xa xm xo xe xs xx ta l1 tc1 ha l2 hc' _).1|exact HS1.out.1|exact HS0.out.1) HBwm.out.size))).mono ?_;rintro e w6 ⟨rfl,hb6⟩;obtain ⟨hcc6,hff6⟩:=bcell hb6;have hzz6:=hb6.size;have HB6:=H_ (SR.byy (by first|assumption|exact HS1.out|exact HS0.out:SR Wm V Bw n g' wh f l tb tl tc xa xm xo xe xs xx ta l1 tc1 ha l2 hc' _) hb6)))
        all_goals (
         rename_i hS2
         have HBn:=H_ hS2.1
         clear hS2
         first
          | (
           obtain ⟨Wn,hWn⟩:∃z,z=w6.alloc (.cells #[.int .i64 RN.n,.int .i64 0,.int .i64 RC] 125):=⟨_,rfl⟩
           obtain ⟨V2,hV2⟩:∃z,z=w6.heap.size:=⟨_,rfl⟩
           rw [←hWn] at HBn ⊢
           have HV2:Hid (Blk V2 [.int .i64 RN.n,.int .i64 0,.int .i64 RC] Wn):=H_ (by rw [hWn,hV2];exact Blk.new w6 _ _)
           rw [←hV2])
          | (
           obtain ⟨Wn,hWn⟩:∃z,z=(((w6.setCell ⟨w5.heap.size,0,none⟩ (.int .i64 RN.n)).setCell ⟨w5.heap.size,1,none⟩ (.int .i64 0)).setCell ⟨w5.heap.size,2,none⟩ (.int .i64 RC)):=⟨_,rfl⟩
           obtain ⟨V2,hV2⟩:∃z,z=w5.heap.size:=⟨_,rfl⟩
           rw [←hWn] at HBn ⊢
           have HV2:Hid (Blk V2 [.int .i64 RN.n,.int .i64 0,.int .i64 RC] Wn):=H_ (by rw [hWn,hV2];exact blk3 ((Blk.new w5 [.int .i64 0,.int .i64 0,.int .i64 0] 125).below hb6) _ _ _)
           rw [←hV2])
          | (
           obtain ⟨Wn,hWn⟩:∃z,z=(((w6.setCell ⟨Wm.heap.size,0,none⟩ (.int .i64 RN.n)).setCell ⟨Wm.heap.size,1,none⟩ (.int .i64 0)).setCell ⟨Wm.heap.size,2,none⟩ (.int .i64 RC)):=⟨_,rfl⟩
           obtain ⟨V2,hV2⟩:∃z,z=Wm.heap.size:=⟨_,rfl⟩
           rw [←hWn] at HBn ⊢
           have HV2:Hid (Blk V2 [.int .i64 RN.n,.int .i64 0,.int .i64 RC] Wn):=H_ (by rw [hWn,hV2];exact blk3 (((Blk.new Wm [.int .i64 0,.int .i64 0,.int .i64 0] 125).below ((Below.refl _ _).drew.trans (by exact hb5))).below hb6) _ _ _)
           rw [←hV2])
         have HBz:=H_ HBn.out
         clear hb5 hb6 hcc hff hzz hcc6 hff6 hzz6 HB5 HB6 HS0 HS1 HSR HDm hWn hV2
         have HBq:=H_ (HB1m.out.trans (HBz.out.mono HB1m.out.size))
         have HBwq:=H_ (HBwm.out.trans (HBz.out.mono HBwm.out.size))
         have HOn:=H_ (own_below HOm.out HBz.out)
         have HZn:=H_ (HZm.out.below HBz.out)
         have HVn:=H_ (HV.out.below HBz.out)
         have q0:Wn.cell? ⟨V2,0,none⟩=some (.int .i64 RN.n):=HV2.out.2 0 (by simp)
         have q2:Wn.cell? ⟨V2,2,none⟩=some (.int .i64 RC):=HV2.out.2 2 (by simp)
         have ql:=HV2.out.1
         have p0:Wn.cell? ⟨V,0,none⟩=some (.string n):=HVn.out.2 0 (by simp)
         have pl:=HVn.out.1
         clear HBn HBz HOm HZm HB1m HBwm HV HVn HV2
         obtain ⟨RI,RM⟩:=RN
         by_cases hrc:RC=0
         ·subst hrc
          have HC2:Hid (∀i,i<j+1→rC ms ((bls a ps).getD i Wd.zero)=0):=H_ (fun i h=>by
           rcases Nat.lt_succ_iff_lt_or_eq.1 h with h|rfl
           ·exact HC.out i h
           ·exact HRC.out)
          have HRF:Hid ((((bls a ps).take (j+1)).map (rN ms)).filter nz=(((bls a ps).take j).map (rN ms)).filter nz++(bif nz ⟨RI,RM⟩ then [⟨RI,RM⟩] else [])):=H_ (by
           rw [HRN.out,List.filter_append,List.filter_cons]
           cases nz ⟨RI,RM⟩<;>rfl)
          have HLL:Hid (((((bls a ps).take j).map (rN ms)).filter nz).length≤400):=H_ (by
           have h1:=List.length_filter_le nz (((bls a ps).take j).map (rN ms))
           rw [List.length_map,List.length_take] at h1
           omega)
          generalize (((bls a ps).take j).map (rN ms)).filter nz=L0 at *
          dsimp only at q0 HNN
          obtain rfl:=HNN.out
          rcases nz_cases n RM with ⟨z1,z2,z3⟩|⟨z1,z2,z3⟩
          ·rw [z3,cond_false,List.append_nil] at HRF
           go_wp2_with fail
           go_roundw
           case rel=>exact ⟨j+1,by omega,by go_num,by rw [HRF.out];exact HOn,HC2,HBq⟩
           case measure=>simp [intOf];omega
          ·rw [z3,cond_true] at HRF
           have hbz:W3.heap.size≤Wn.heap.size:=HBq.out.size
           have hLL:=HLL.out
           go_wp2_with (at_builtin;refine wpList_append_own _ rfl _ _ 29 rfl W3.heap.size 58 i0 (.agg #[.string ⟨#[]⟩,.int .i64 0]) 2 24 Tryz.underlying29 hi hz0 hz1 hz2 rfl (by decide) _ _ _ rfl (HOn.out.alloc _) ⟨Wn.heap.size,0,none⟩ 1 1 (N.cells ⟨n,RM⟩) rfl rfl ?a1 ?a2 ?a3 ?a4 (by simp;omega) ?_)
           case a1=>first|exact fun j u h=>h|exact LinR.two_cells _ _ _ _
           case a2=>exact LinR.two_one _
           case a3=>unfold maxLen;omega
           case a4=>omega
           intro v2 w7 hown hgrow hne
           have HO7:Hid (w7.ownsRow W3.heap.size 58 2 v2 (L0 ++ [(⟨n,RM⟩:N)]).length (cellsAll N.cells (L0 ++ [(⟨n,RM⟩:N)]))):=H_ (by rw [RowG.cellsAll_app,List.length_append];exact hown)
           have HB7:Hid (Below W3.heap.size W3 w7):=H_ ((HBq.out.trans ((alB Wn _).mono HBq.out.size)).grown hgrow (by simp;omega) (fun c hc=>(HOn.out.lt c hc).1))
           clear hown hgrow hne q0 q2 p0 pl ql
           go_wp2_with fail
           go_roundw
           case rel=>exact ⟨j+1,by omega,by go_num,by rw [HRF.out];exact HO7,HC2,HB7⟩
           case measure=>simp [intOf];omega
         ·have h1:(RC==0)=false:=by simp [hrc]
          have h2:(RC != 0)=true:=by simp [hrc]
          obtain rfl:O=([],RC):=by
           have h:=HE12.out HALL.out HNT.out j HJB.out HC.out (by rw [HRC.out];exact hrc)
           rw [HRC.out] at h;exact h
          go_wp2_with fail
          refine (sill8 RC _).mono ?_
          rintro e w7 ⟨rfl,hb7⟩
          have HB7:=H_ (HBwq.out.trans (hb7.mono HBwq.out.size))
          obtain ⟨zl,z0,z1,y0,y1⟩:=HZn.out.below hb7
          clear hb7 q0 q2 p0 pl ql
          go_wp2_with fail
          refine bodyPost_ret (v:=.agg #[.slice none 0 0,.int .i64 RC]) (by simp [results,Tryz.results37,go_sem,z0,z1]) rfl ⟨none,0,rfl,made_nil _ _ _,below2 HB7.out hBl _ _⟩))
      ·have hlt2:¬(j:Int)<(nl:Int):=by omega
       obtain rfl:j=nl:=by omega
       have HBr:=H_ (HB.out.trans (HB3.out.mono HB.out.size))
       have HBw:=H_ (HB0.out.trans (HBr.out.mono HB0.out.size))
       have htk:(bls a ps).take j=bls a ps:=List.take_of_length_le (by rw [bls_len,←HL.out,←HNL.out];omega)
       rw [htk] at HO
       have HC3:Hid (∀i,i<(bls a ps).length→rC ms ((bls a ps).getD i Wd.zero)=0):=H_ (fun i h=>HC.out i (by rw [bls_len,←HL.out,←HNL.out] at h;exact h))
       have HDD:=H_ (HD.out HALL.out HNT.out HC3.out)
       generalize ((bls a ps).map (rN ms)).filter nz=L0 at *
       obtain ⟨ao,cp,rfl,hm⟩:=own_made (cells:=N.cells) (k:=2) (z:=N.zero) N.len HO.out
       have HI2:Hid (Lis ao L0 _):=H_ hm.rws
       have HXr:=H_ (HX0.out.below HBr.out)
       have HZr:=H_ (HZ0.out.below HBr.out)
       clear hm HO HC HC3 htk
       have x0:=HXr.out.2 0 (by simp)
       have x1:=HXr.out.2 1 (by simp)
       have xL:=HXr.out.1
       simp only [List.getElem?_cons_zero,List.getElem?_cons_succ] at x0 x1
       generalize L0.length=n0 at *
       go_wp2_with fail
       refine (HCR.out _ HBw.out).mono ?_
       rintro e w7 ⟨rfl,hb7⟩
       have HI7:=H_ (HI2.out.below hb7)
       have HB7:=H_ (HBw.out.trans (hb7.mono HBw.out.size))
       have HZ7:=H_ (HZr.out.below hb7)
       clear hb7 x0 x1 xL
       go_wp2_with fail
       refine (HDD.out _ _ _ HI7.out).mono ?_
       rintro e w8 ⟨ao2,cap2,rfl,h0,hm,hb8⟩
       have HMM:=H_ (hm.low HB7.out.size)
       have H0:=H_ h0
       have HBL:Hid (B1<w7.heap.size):=H_ HZ7.out.1
       have HM7:=H_ hm
       have HB8:=H_ (HB7.out.trans (hb8.mono HB7.out.size))
       obtain ⟨zl,z0,z1,y0,y1⟩:=HZ7.out.below hb8
       clear hm h0 hb8
       generalize hn:O.1.length=n1 at *
       go_wp2_with fail
       refine bodyPost_ret (v:=.agg #[.slice ao2 n1 cap2,.int .i64 0]) (by simp [results,Tryz.results37,go_sem,z0,z1]) rfl ⟨ao2,cap2,by rw [H0.out,hn],?_,below2 HB8.out hBl _ _⟩
       exact made_two HM7.out HMM.out HBL.out
end BilR
end Go.Proofs.YtcilbmhkhllmjaaGreatDoor
