/-
  Lines that are put together, and what is left of them behind a credit: both sides say the same. The condition: at most 1048576 lines, whose Meters have at most 1048576 bytes.
-/
import Derived.OwnWalk
import Derived.Deep.RegionHeld3
import Derived.Test.YtnceeaccbcfopaaGreatDoorT46
namespace Go.Proofs.YtnceeaccbcfopaaGreatDoor
open Go.ChangeShapes Go.WideShapes Go.ChangeAt Go.RowKit
set_option linter.unusedVariables false
namespace LinR
open RowG LtR
theorem step_append_own {P:Program} {w:World} {ops:Array Oper} {o:Oper} {a:Act} {K:Act→World→Prop} {Q:Exit→Act→World→Prop} {E:Prop} (hgd:o.guard=none) (s x:Operand) (t:TypeId)
 (ho:o.op=.call {callee:=.builtin .append,args:=#[s,x],argTypes:=#[t,t]})
 (base:Nat) (e:TypeId) (i:TypeInfo) (z:Value) (size bytes:Nat) (ht:P.underlying t=some (.slice e)) (hi:P.info? e=some i) (hz:i.zero=some z)
 (hsize:i.size=size) (hby:i.bytes=bytes) (hzs:z.cells.size=size) (hsz:0<size)
 (v:Value) (n:Nat) (xs:List Value) (hs:a.eval s=v) (hown:w.ownsRow base e size v n xs)
 (ad:Addr) (m c:Nat) (news:List Value) (hx:a.eval x=.slice (some ad) m c) (hl:news.length=m*size) (hnews:∀j u,news[j]? = some u→w.cell? (ad.add j)=some u) (h1:∀u∈news,u.oneCell'=true)
 (h63:n+m≤maxLen) (hbytes:(n+m)*bytes≤140737488355328) (hbase:base≤w.heap.size)
 (h:∀v' w',w'.ownsRow base e size v' (n+m) (xs++news)→w.grownBy w' v.ownBlock→(v'=.slice none 0 0↔v=.slice none 0 0∧m=0)→K (a.put o.dst v') w'):if Region.wanted o (yielded ops a.tmps)=true then Oper.wp P o a w K Q else E:=by
 have hw:Region.wanted o (yielded ops a.tmps)=true:=by simp [Region.wanted,hgd]
 rw [if_pos hw]
 exact wp_append_own w s x t ho base e i z size bytes ht hi hz hsize hby hzs hsz v n xs hs hown ad m c news hx hl hnews h1 h63 hbytes hbase h
theorem own_drew {w:World} {base e size n:Nat} {v:Value} {xs:List Value} (h:w.ownsRow base e size v n xs):w.drew.ownsRow base e size v n xs:=h
theorem own_low {w:World} {base base' e size n:Nat} {v:Value} {xs:List Value} (h:w.ownsRow base e size v n xs) (hb:base'≤base):w.ownsRow base' e size v n xs:=by
 refine ⟨h.1,?_⟩
 rcases h.2 with hn|⟨g,cap,cur,rfl,h1,rest⟩
 ·exact .inl hn
 ·exact .inr ⟨g,cap,cur,rfl,by omega,rest⟩
theorem own_empty (w:World) (base e size:Nat) (hb:base≤w.heap.size):(w.alloc (.cells #[] e)).ownsRow base e size (.slice (some ⟨w.heap.size,0,none⟩) 0 0) 0 [] :=
 World.ownsRow_made w #[] 0 hb (by unfold maxLen;omega) (by simp)
def BM2 (w:World) (B:Nat) (a0 a1:Value) (W:World):Prop:=Below w.heap.size w W∧B<W.heap.size∧W.cell? ⟨B,0,none⟩=some a0∧W.cell? ⟨B,1,none⟩=some a1
theorem BM2.below {w:World} {B:Nat} {a0 a1:Value} {W W':World} (h:BM2 w B a0 a1 W) (hb:Below W.heap.size W W'):BM2 w B a0 a1 W':=by
 obtain ⟨h0,l1,p0,p1⟩:=h
 have f:=fun o=>hb.cell (p:=⟨B,o,none⟩) l1
 have hs:=hb.size
 exact ⟨h0.trans (hb.mono h0.size),by omega,(f 0).trans p0,(f 1).trans p1⟩
theorem BM2.drew {w:World} {B:Nat} {a0 a1:Value} {W:World} (h:BM2 w B a0 a1 W):BM2 w B a0 a1 W.drew:=⟨h.1.drew,h.2⟩
theorem BM2.grown {w:World} {B:Nat} {a0 a1:Value} {W W':World} {v:Value} {wr:World} {base e size n:Nat} {xs:List Value} (h:BM2 w B a0 a1 W) (hg:W.grownBy W' v.ownBlock) (ho:wr.ownsRow base e size v n xs) (hB:B=wr.heap.size:=by rfl) (hbase:w.heap.size≤base:=by omega):BM2 w B a0 a1 W':=by
 obtain ⟨h0,l1,p0,p1⟩:=h
 have hne:some B≠v.ownBlock:=fun e=>by have:=(ho.lt B e.symm).2;omega
 have e:=hg.block B l1 hne
 exact ⟨h0.grown hg h0.size (fun k e=>by have:=(ho.lt k e).1;omega),by have:=hg.size;omega,(World.cell?_of_block (a:=⟨B,0,none⟩) e).trans p0,(World.cell?_of_block (a:=⟨B,1,none⟩) e).trans p1⟩
theorem two_cells (W:World) (i:ByteArray) (n:Int) (T:TypeId):∀(j:Nat) u,(N.cells ⟨i,n⟩)[j]? = some u→(W.alloc (.cells #[.string i,.int .i64 n] T)).cell? ((⟨W.heap.size,0,none⟩:Addr).add j)=some u:=by
 intro j u hx
 have hx2:j<2:=by
  have:=(List.getElem?_eq_some_iff.1 hx).1
  simpa [N.cells] using this
 match j,hx2,hx with
 | 0,_,hx=>simp [N.cells] at hx;subst hx;simp [Addr.add,go_sem]
 | 1,_,hx=>simp [N.cells] at hx;subst hx;simp [Addr.add,go_sem]
theorem two_one (x:N):∀u∈N.cells x,u.oneCell'=true:=by
 intro u hu
 simp only [N.cells,List.mem_cons,List.not_mem_nil,or_false] at hu
 rcases hu with rfl|rfl<;>rfl
theorem filter_more (p:N→Bool) (xs:List N) (k:Nat) (h:k<xs.length):(xs.take (k+1)).filter p=(xs.take k).filter p++(bif p (xs.getD k N.zero) then [xs.getD k N.zero] else []):=by
 rw [take_more (z:=N.zero) xs k h,List.filter_append]
 generalize xs.getD k N.zero=X
 cases hr:p X<;>simp [hr]
def nz (x:N):Bool:=decide (x.n≠0)
theorem nz_cases (i:ByteArray) (n:Int):((n==0)=true∧(n != 0)=false∧nz ⟨i,n⟩=false)∨((n==0)=false∧(n != 0)=true∧nz ⟨i,n⟩=true):=by
 unfold nz
 by_cases h:n=0
 ·exact .inl ⟨by simpa using h,by simpa using h,by simpa using h⟩
 ·exact .inr ⟨by simpa using h,by simpa using h,by simpa using h⟩
set_option maxRecDepth 100000 in
set_option maxHeartbeats 4000000 in
theorem put_any (ao:Option Addr) (cap:Nat) (es:List N) (w:World) (hlen:es.length≤1048576) (hS:∀e∈es,e.i.size≤1048576) (hI:Lis ao es w) :
 Calls Tryz.prog 186 #[.slice ao es.length cap] w fun e w'=>∃v,e=.returned v∧w'.ownsRow w.heap.size 209 2 v (es.filter nz).length (cellsAll N.cells (es.filter nz))∧Below w.heap.size w w':=by
 obtain ⟨i0,hi,hz0,hz1,hz2⟩:=info_parts infoN
 have HI:=H_ hI
 have HS:=H_ hS
 obtain ⟨len,hl⟩:∃len,len=es.length:=⟨_,rfl⟩
 rw [←hl] at hlen ⊢
 have HL:=H_ hl
 clear hI hS hl
 go_enter Tryz.func186,Tryz.ntmps186
 go_wp2_with fail
 go_loopw [3,8] (fun v z wr=>∃k:Nat,k≤len∧z=.int .i64 k∧Hid (wr.ownsRow w.heap.size 209 2 v ((es.take k).filter nz).length (cellsAll N.cells ((es.take k).filter nz)))∧Hid (Below w.heap.size w wr)) (fun v z _=>len-(intOf z).toNat)
 case atStart=>exact ⟨0,by omega,rfl,H_ (World.ownsRow_nil _ _ _ _),H_ (Below.refl _ _)⟩
 case round =>
  obtain ⟨k,hk,rfl,HO,HB⟩:=hrel
  by_cases hlt:k<len
  ·have hlt2:(k:Int)<(len:Int):=by omega
   obtain ⟨b,off,rfl,hbl,c0,c1⟩:=(HI.out.below HB.out).at k (by have:=HL.out;omega)
   have hsz:=HS.out _ (getD_mem (z:=N.zero) es k (by have:=HL.out;omega))
   have HF:=H_ (filter_more nz es k (by have:=HL.out;omega))
   have HLF:Hid (((es.take k).filter nz).length≤1048576):=H_ (by
    have h1:=List.length_filter_le nz (es.take k)
    have h2:=List.length_take_le k es
    omega)
   obtain ⟨F,hF⟩:∃F,F=(es.take k).filter nz:=⟨_,rfl⟩
   rw [←hF] at HO HF HLF
   clear hF
   generalize es.getD k N.zero=X at *
   obtain ⟨xi,xn⟩:=X
   dsimp only at c0 c1 hsz
   rcases nz_cases xi xn with ⟨q1,q2,q3⟩|⟨q1,q2,q3⟩
   ·rw [q3] at HF
    go_wp2_with fail
    go_roundw
    case rel=>exact ⟨k+1,by omega,by go_num,H_ (by rw [HF.out,cond_false,List.append_nil];exact HO.out.alloc _),H_ (HB.out.alloc HB.out.size _)⟩
    case measure=>simp [intOf];omega
   ·rw [q3] at HF
    have HCL:=H_ (fun w=>CloneR.clone_any xi w (by omega))
    have HAl:Hid (BM2 w wr.heap.size (.string xi) (.int .i64 xn) (wr.alloc (.cells #[.string xi,.int .i64 xn] 209))):=H_ ⟨HB.out.alloc HB.out.size _,by simp,by simp [go_sem],by simp [go_sem]⟩
    have HAd:=H_ HAl.out.drew
    have HOA:=H_ (own_drew (HO.out.alloc (.cells #[.string xi,.int .i64 xn] 209)))
    have sz1:F.length+1≤maxLen:=by unfold maxLen;have:=HLF.out;omega
    have sz2:(F.length+1)*24≤140737488355328:=by have:=HLF.out;omega
    have sz3:0<2:=by omega
    go_wp2_with fail
    go_region_held3 (fun W=>Below w.heap.size w W∧wr.heap.size<W.heap.size∧W.cell? ⟨wr.heap.size,0,none⟩=some (.string xi)∧W.cell? ⟨wr.heap.size,1,none⟩=some (.int .i64 xn))
     (first|assumption|(exact HAl.out)|(exact HAd.out)|(exact BM2.below (w:=w) (B:=wr.heap.size) (by assumption) hb1)|(exact BM2.below (w:=w) (B:=wr.heap.size) (by assumption) ((Below.refl _ _).alloc (Nat.le_refl _) _))|(exact BM2.grown (w:=w) (B:=wr.heap.size) (by assumption) hgrow HO.out rfl (Nat.le_refl _)))
     (first|(go_at_call 133;refine (HCL.out _).mono ?_;rintro e w1 ⟨rfl,hb1⟩;have HO1:=H_ (own_below HOA.out hb1);have HS1:Hid (w.heap.size≤w1.heap.size):=H_ (Nat.le_trans HAd.out.1.size hb1.size))|(refine step_append_own rfl _ _ 120 rfl w.heap.size 209 i0 (.agg #[.string ⟨#[]⟩,.int .i64 0]) 2 24 Tryz.underlying120 hi hz0 hz1 hz2 rfl sz3 _ _ _ rfl (HO1.out.alloc _) ⟨w1.heap.size,0,none⟩ 1 1 (N.cells ⟨xi,xn⟩) rfl rfl (two_cells _ _ _ _) (two_one _) sz1 sz2 (Nat.le_trans HS1.out (by simp)) ?_;intro v' w4 hown hgrow hne))
    rename_i hS
    have HB4:=H_ hS.1
    have HO4:Hid (w4.ownsRow w.heap.size 209 2 v' (F ++ [(⟨xi,xn⟩:N)]).length (cellsAll N.cells (F ++ [(⟨xi,xn⟩:N)]))):=H_ (by rw [cellsAll_app,List.length_append];exact hown)
    clear hown hgrow hne hS
    go_wp2_with fail
    go_roundw
    case rel=>exact ⟨k+1,by omega,by go_num,H_ (by rw [HF.out,cond_true];exact HO4.out),HB4⟩
    case measure=>simp [intOf];omega
  ·have hlt2:¬(k:Int)<(len:Int):=by omega
   obtain rfl:k=len:=by omega
   have HE:Hid (es.take k=es):=H_ (List.take_of_length_le (by have:=HL.out;omega))
   rw [HE.out] at HO
   go_wp2_with fail
   go_ret
   exact ⟨_,rfl,HO.out,HB.out⟩
end LinR
end Go.Proofs.YtnceeaccbcfopaaGreatDoor
