/-
  A window as the program works with it, and what it calls right.
  Lists of one's own that grow by append.
  The conditions stand in what each theorem says.
-/
import Derived.Laws.EntriesVeiled
import Derived.OwnWalk
import Derived.Test.YtnceeaccbcfopaaGreatDoorT14
set_option maxRecDepth 100000
set_option maxHeartbeats 16000000
namespace Go.Proofs.YtnceeaccbcfopaaGreatDoor
open Go.ChangeShapes Go.WideShapes Go.ChangeAt Go.RowKit
set_option linter.unusedVariables false
namespace WinR
open RowG LtR
open CatR (Blk Blk.new)
open DateR (Laid)
open EvtR (Pt)
theorem impl_rtags (ta:Option Addr) (tl tc:Nat) (w:World) :
 Calls Tryz.prog 183 #[.slice ta tl tc] w fun e w'=>e=.returned (.agg #[.slice ta tl tc,.func (.func 212) #[] #[],.func (.func 213) #[] #[]])∧Below w.heap.size w w':=by
 go_enter Tryz.func183,Tryz.ntmps183
 go_wp2_with fail
 refine bodyPost_ret (v:=.agg #[.slice ta tl tc,.func (.func 212) #[] #[],.func (.func 213) #[] #[]]) (by simp [results,Tryz.results183,go_sem]) rfl ⟨rfl,?_⟩
 repeat' first|exact Below.refl _ _|apply Below.setCell|apply Below.alloc
 all_goals first|omega|(simp;done)|(simp;omega)
theorem impl_rhours (ta:Option Addr) (tl tc:Nat) (w:World) :
 Calls Tryz.prog 184 #[.slice ta tl tc] w fun e w'=>e=.returned (.agg #[.slice ta tl tc,.func (.func 214) #[] #[],.func (.func 215) #[] #[]])∧Below w.heap.size w w':=by
 go_enter Tryz.func184,Tryz.ntmps184
 go_wp2_with fail
 refine bodyPost_ret (v:=.agg #[.slice ta tl tc,.func (.func 214) #[] #[],.func (.func 215) #[] #[]]) (by simp [results,Tryz.results184,go_sem]) rfl ⟨rfl,?_⟩
 repeat' first|exact Below.refl _ _|apply Below.setCell|apply Below.alloc
 all_goals first|omega|(simp;done)|(simp;omega)
def UBx (w:World) (a m:ByteArray) (mo ev su mx:Int) (ta:Option Addr) (tl tc:Nat) (ha:Option Addr) (hl hc:Nat) (W:World):Prop:=Below w.heap.size w W∧w.heap.size+1<W.heap.size∧W.cell? ⟨w.heap.size,0,none⟩=some (.string a)∧W.cell? ⟨w.heap.size,1,none⟩=some (.string m)∧W.cell? ⟨w.heap.size,2,none⟩=some (.int .i64 mo)∧W.cell? ⟨w.heap.size,3,none⟩=some (.int .i64 ev)∧W.cell? ⟨w.heap.size,4,none⟩=some (.int .i64 su)∧W.cell? ⟨w.heap.size,5,none⟩=some (.int .i64 mx)∧W.cell? ⟨w.heap.size,6,none⟩=some (.slice ta tl tc)∧W.cell? ⟨w.heap.size,7,none⟩=some (.slice ha hl hc)∧Pt (w.heap.size+1) 12 W
theorem UBx.below {w:World} {a m:ByteArray} {mo ev su mx:Int} {ta:Option Addr} {tl tc:Nat} {ha:Option Addr} {hl hc:Nat} {W W':World} (h:UBx w a m mo ev su mx ta tl tc ha hl hc W) (hb:Below W.heap.size W W'):UBx w a m mo ev su mx ta tl tc ha hl hc W':=by
 obtain ⟨h0,h1,c0,c1,c2,c3,c4,c5,c6,c7,hp⟩:=h
 have c:=fun o=>hb.cell (p:=⟨w.heap.size,o,none⟩) (Nat.lt_trans (Nat.lt_succ_self _) h1)
 have:=hb.size
 exact ⟨h0.trans (hb.mono h0.size),by omega,(c 0).trans c0,(c 1).trans c1,(c 2).trans c2,(c 3).trans c3,(c 4).trans c4,(c 5).trans c5,(c 6).trans c6,(c 7).trans c7,hp.below hb⟩
theorem UBx.put {w:World} {a m:ByteArray} {mo ev su mx:Int} {ta:Option Addr} {tl tc:Nat} {ha:Option Addr} {hl hc:Nat} {W:World} (h:UBx w a m mo ev su mx ta tl tc ha hl hc W) (o:Nat) (v:Value):UBx w a m mo ev su mx ta tl tc ha hl hc (W.setCell ⟨w.heap.size+1,o,none⟩ v):=by
 obtain ⟨h0,h1,c0,c1,c2,c3,c4,c5,c6,c7,hp⟩:=h
 exact ⟨h0.setCell (by simp) _,by simpa using h1,by simp [go_sem,c0],by simp [go_sem,c1],by simp [go_sem,c2],by simp [go_sem,c3],by simp [go_sem,c4],by simp [go_sem,c5],by simp [go_sem,c6],by simp [go_sem,c7],hp.set _ _⟩
theorem UBx.out {w:World} {a m:ByteArray} {mo ev su mx:Int} {ta:Option Addr} {tl tc:Nat} {ha:Option Addr} {hl hc:Nat} {W:World} (h:UBx w a m mo ev su mx ta tl tc ha hl hc W):∃v0 v1 v2 v3 v4 v5 v6 v7 v8 v9 v10 v11,W.cell? ⟨w.heap.size+1,0,none⟩=some v0∧W.cell? ⟨w.heap.size+1,1,none⟩=some v1∧W.cell? ⟨w.heap.size+1,2,none⟩=some v2∧W.cell? ⟨w.heap.size+1,3,none⟩=some v3∧W.cell? ⟨w.heap.size+1,4,none⟩=some v4∧W.cell? ⟨w.heap.size+1,5,none⟩=some v5∧W.cell? ⟨w.heap.size+1,6,none⟩=some v6∧W.cell? ⟨w.heap.size+1,7,none⟩=some v7∧W.cell? ⟨w.heap.size+1,8,none⟩=some v8∧W.cell? ⟨w.heap.size+1,9,none⟩=some v9∧W.cell? ⟨w.heap.size+1,10,none⟩=some v10∧W.cell? ⟨w.heap.size+1,11,none⟩=some v11∧W.frozen? ⟨w.heap.size+1,0,none⟩=false∧W.frozen? ⟨w.heap.size+1,1,none⟩=false∧W.frozen? ⟨w.heap.size+1,2,none⟩=false∧W.frozen? ⟨w.heap.size+1,3,none⟩=false∧W.frozen? ⟨w.heap.size+1,4,none⟩=false∧W.frozen? ⟨w.heap.size+1,5,none⟩=false∧W.frozen? ⟨w.heap.size+1,6,none⟩=false∧W.frozen? ⟨w.heap.size+1,7,none⟩=false∧W.frozen? ⟨w.heap.size+1,8,none⟩=false∧W.frozen? ⟨w.heap.size+1,9,none⟩=false∧W.frozen? ⟨w.heap.size+1,10,none⟩=false∧W.frozen? ⟨w.heap.size+1,11,none⟩=false:=by
 obtain ⟨_,_,_,_,_,_,_,_,_,_,hp⟩:=h
 obtain ⟨v0,e0⟩:=hp.has 0 (by omega)
 obtain ⟨v1,e1⟩:=hp.has 1 (by omega)
 obtain ⟨v2,e2⟩:=hp.has 2 (by omega)
 obtain ⟨v3,e3⟩:=hp.has 3 (by omega)
 obtain ⟨v4,e4⟩:=hp.has 4 (by omega)
 obtain ⟨v5,e5⟩:=hp.has 5 (by omega)
 obtain ⟨v6,e6⟩:=hp.has 6 (by omega)
 obtain ⟨v7,e7⟩:=hp.has 7 (by omega)
 obtain ⟨v8,e8⟩:=hp.has 8 (by omega)
 obtain ⟨v9,e9⟩:=hp.has 9 (by omega)
 obtain ⟨v10,e10⟩:=hp.has 10 (by omega)
 obtain ⟨v11,e11⟩:=hp.has 11 (by omega)
 exact ⟨v0,v1,v2,v3,v4,v5,v6,v7,v8,v9,v10,v11,e0,e1,e2,e3,e4,e5,e6,e7,e8,e9,e10,e11,hp.free 0 (by omega),hp.free 1 (by omega),hp.free 2 (by omega),hp.free 3 (by omega),hp.free 4 (by omega),hp.free 5 (by omega),hp.free 6 (by omega),hp.free 7 (by omega),hp.free 8 (by omega),hp.free 9 (by omega),hp.free 10 (by omega),hp.free 11 (by omega)⟩
theorem impl_usage (a m:ByteArray) (mo ev su mx:Int) (ta:Option Addr) (tl tc:Nat) (ha:Option Addr) (hl hc:Nat) (w:World) :
 Calls Tryz.prog 136 #[.agg #[.string a,.string m,.int .i64 mo,.int .i64 ev,.int .i64 su,.int .i64 mx,.slice ta tl tc,.slice ha hl hc]] w fun e w'=>e=.returned (.agg #[.string a,.string m,.int .i64 mo,.int .i64 ev,.int .i64 su,.int .i64 mx,.slice ta tl tc,.func (.func 212) #[] #[],.func (.func 213) #[] #[],.slice ha hl hc,.func (.func 214) #[] #[],.func (.func 215) #[] #[]])∧Below w.heap.size w w':=by
 go_enter Tryz.func136,Tryz.ntmps136
 go_wp2_with fail
 have HT0:Hid (UBx w a m mo ev su mx ta tl tc ha hl hc (((w.alloc (.cells #[.string a,.string m,.int .i64 mo,.int .i64 ev,.int .i64 su,.int .i64 mx,.slice ta tl tc,.slice ha hl hc] 106)).alloc (.cells #[.string ⟨#[]⟩,.string ⟨#[]⟩,.int .i64 0,.int .i64 0,.int .i64 0,.int .i64 0,.slice none 0 0,.nilFunc,.nilFunc,.slice none 0 0,.nilFunc,.nilFunc] 196)).drew)):=H_ (by
  refine ⟨(((al_ _ _).alloc (by simp) _).drew),by simp,by simp [go_sem],by simp [go_sem],by simp [go_sem],by simp [go_sem],by simp [go_sem],by simp [go_sem],by simp [go_sem],by simp [go_sem],by simp,fun o ho=>?_,fun o ho=>?_⟩
  ·match o,ho with
   | 0,_=>exact ⟨_,by simp [go_sem];rfl⟩
   | 1,_=>exact ⟨_,by simp [go_sem];rfl⟩
   | 2,_=>exact ⟨_,by simp [go_sem];rfl⟩
   | 3,_=>exact ⟨_,by simp [go_sem];rfl⟩
   | 4,_=>exact ⟨_,by simp [go_sem];rfl⟩
   | 5,_=>exact ⟨_,by simp [go_sem];rfl⟩
   | 6,_=>exact ⟨_,by simp [go_sem];rfl⟩
   | 7,_=>exact ⟨_,by simp [go_sem];rfl⟩
   | 8,_=>exact ⟨_,by simp [go_sem];rfl⟩
   | 9,_=>exact ⟨_,by simp [go_sem];rfl⟩
   | 10,_=>exact ⟨_,by simp [go_sem];rfl⟩
   | 11,_=>exact ⟨_,by simp [go_sem];rfl⟩
  ·match o,ho with
   | 0,_=>simp [go_sem]
   | 1,_=>simp [go_sem]
   | 2,_=>simp [go_sem]
   | 3,_=>simp [go_sem]
   | 4,_=>simp [go_sem]
   | 5,_=>simp [go_sem]
   | 6,_=>simp [go_sem]
   | 7,_=>simp [go_sem]
   | 8,_=>simp [go_sem]
   | 9,_=>simp [go_sem]
   | 10,_=>simp [go_sem]
   | 11,_=>simp [go_sem]
)
 refine wp_region_held_drew (S:=(fun W=>Below w.heap.size w W∧w.heap.size+1<W.heap.size∧W.cell? ⟨w.heap.size,0,none⟩=some (.string a)∧W.cell? ⟨w.heap.size,1,none⟩=some (.string m)∧W.cell? ⟨w.heap.size,2,none⟩=some (.int .i64 mo)∧W.cell? ⟨w.heap.size,3,none⟩=some (.int .i64 ev)∧W.cell? ⟨w.heap.size,4,none⟩=some (.int .i64 su)∧W.cell? ⟨w.heap.size,5,none⟩=some (.int .i64 mx)∧W.cell? ⟨w.heap.size,6,none⟩=some (.slice ta tl tc)∧W.cell? ⟨w.heap.size,7,none⟩=some (.slice ha hl hc)∧Pt (w.heap.size+1) 12 W)) (by kernel_rfl) HT0.out (fun hHeld=>?_)
 refine tk 0 ?_
 refine tk 1 ?_
 refine tk 2 ?_
 refine tk 3 ?_
 refine tk 4 ?_
 refine tk 5 ?_
 refine tk 6 ?_
 refine tk 7 ?_
 refine tk 8 ?_
 refine tk 9 ?_
 refine tk 10 ?_
 refine tk 11 ?_
 refine tk 12 ?_
 refine tk 13 ?_
 refine tk 14 ?_
 refine tk 15 ?_
 refine tk 17 ?_
 refine tk 18 ?_
 refine rd 16 (fun K hK=>?_)
 go_simp
 go_at_call 183
 refine (impl_rtags _ _ _ _).mono ?_
 rintro e q1 ⟨rfl,hq1⟩
 try go_wp2_with fail
 have hk1:=@UBx.below w a m mo ev su mx ta tl tc ha hl hc _ _ HT0.out hq1
 refine hK.out _ _ hk1 (fun _=>?_)
 clear hK K
 try simp only [Act.put,SL]
 refine rd 19 (fun K hK=>?_)
 go_simp
 go_at_call 184
 refine (impl_rhours _ _ _ _).mono ?_
 rintro e q2 ⟨rfl,hq2⟩
 try go_wp2_with fail
 have hk2:=@UBx.below w a m mo ev su mx ta tl tc ha hl hc _ _ hk1 hq2
 refine hK.out _ _ hk2 (fun _=>?_)
 clear hK K
 try simp only [Act.put,SL]
 refine tk 20 ?_
 obtain ⟨v0,v1,v2,v3,v4,v5,v6,v7,v8,v9,v10,v11,r0,r1,r2,r3,r4,r5,r6,r7,r8,r9,r10,r11,z0,z1,z2,z3,z4,z5,z6,z7,z8,z9,z10,z11⟩:=@UBx.out w a m mo ev su mx ta tl tc ha hl hc _ hk2
 have hlt:=hk2.2.1
 refine rd 21 (fun K hK=>?_)
 go_simp
 try go_wp2_with fail
 have hk3:=(@UBx.put w a m mo ev su mx ta tl tc ha hl hc _ (@UBx.put w a m mo ev su mx ta tl tc ha hl hc _ (@UBx.put w a m mo ev su mx ta tl tc ha hl hc _ (@UBx.put w a m mo ev su mx ta tl tc ha hl hc _ (@UBx.put w a m mo ev su mx ta tl tc ha hl hc _ (@UBx.put w a m mo ev su mx ta tl tc ha hl hc _ (@UBx.put w a m mo ev su mx ta tl tc ha hl hc _ (@UBx.put w a m mo ev su mx ta tl tc ha hl hc _ (@UBx.put w a m mo ev su mx ta tl tc ha hl hc _ (@UBx.put w a m mo ev su mx ta tl tc ha hl hc _ (@UBx.put w a m mo ev su mx ta tl tc ha hl hc _ (@UBx.put w a m mo ev su mx ta tl tc ha hl hc _ hk2 0 (.string a)) 1 (.string m)) 2 (.int .i64 mo)) 3 (.int .i64 ev)) 4 (.int .i64 su)) 5 (.int .i64 mx)) 6 (.slice ta tl tc)) 7 (.func (.func 212) #[] #[])) 8 (.func (.func 213) #[] #[])) 9 (.slice ha hl hc)) 10 (.func (.func 214) #[] #[])) 11 (.func (.func 215) #[] #[]))
 refine hK.out _ _ hk3 (fun _=>?_)
 clear hK K
 try simp only [Act.put,SL]
 refine wpAnyH_done (by kernel_rfl) ?_ _
 have HB:=H_ hk3.1
 clear hk3 hk2 hk1
 go_wp2_with fail
 refine bodyPost_ret (v:=.agg #[.string a,.string m,.int .i64 mo,.int .i64 ev,.int .i64 su,.int .i64 mx,.slice ta tl tc,.func (.func 212) #[] #[],.func (.func 213) #[] #[],.slice ha hl hc,.func (.func 214) #[] #[],.func (.func 215) #[] #[]]) (by simp [results,Tryz.results136,go_sem,r0,r1,r2,r3,r4,r5,r6,r7,r8,r9,r10,r11]) rfl ⟨rfl,HB.out⟩
end WinR
namespace WinR
open CatR (Blk)
theorem own_drew {w:World} {base e size n:Nat} {v:Value} {xs:List Value} (h:w.ownsRow base e size v n xs):w.drew.ownsRow base e size v n xs:=h
theorem step_append_own {P:Program} {w:World} {ops:Array Oper} {o:Oper} {a:Act} {K:Act→World→Prop} {Q:Exit→Act→World→Prop} {E:Prop} (hgd:o.guard=none) (s x:Operand) (t:TypeId)
 (ho:o.op=.call {callee:=.builtin .append,args:=#[s,x],argTypes:=#[t,t]})
 (base:Nat) (e:TypeId) (i:TypeInfo) (z:Value) (size bytes:Nat) (ht:P.underlying t=some (.slice e)) (hi:P.info? e=some i) (hz:i.zero=some z)
 (hsize:i.size=size) (hby:i.bytes=bytes) (hzs:z.cells.size=size) (hsz:0<size)
 (v:Value) (n:Nat) (xs:List Value) (hs:a.eval s=v) (hown:w.ownsRow base e size v n xs)
 (ad:Addr) (m c:Nat) (news:List Value) (hx:a.eval x=.slice (some ad) m c) (hl:news.length=m*size) (hnews:∀j u,news[j]? = some u→w.cell? (ad.add j)=some u) (h1:∀u∈news,u.oneCell'=true)
 (h63:n+m≤maxLen) (hbytes:(n+m)*bytes≤140737488355328) (hbase:base≤w.heap.size)
 (h:∀v' w',w'.ownsRow base e size v' (n+m) (xs++news)→w.grownBy w' v.ownBlock→(v'=.slice none 0 0↔v=.slice none 0 0∧m=0)→K (a.put o.dst v') w'):if Region.wanted o (yielded ops a.tmps)=true then Oper.wp P o a w K Q else E:=by
 have hw:Region.wanted o (yielded ops a.tmps)=true:=by simp [Region.wanted,hgd]
 rw [if_pos hw]
 exact wp_append_own w s x t ho base e i z size bytes ht hi hz hsize hby hzs hsz v n xs hs hown ad m c news hx hl hnews h1 h63 hbytes hbase h
theorem two_cells (w:World) (x y:ByteArray) (T:TypeId):∀j u,[Value.string x,Value.string y][j]? = some u→(w.alloc (.cells #[.string x,.string y] T)).cell? ((⟨w.heap.size,0,none⟩:Addr).add j)=some u:=by
 intro j u hj
 match j,hj with
 | 0,hj=>simp at hj;subst hj;simp [Addr.add]
 | 1,hj=>simp at hj;subst hj;simp [Addr.add,go_sem]
theorem two_one (x y:ByteArray):∀u∈[Value.string x,Value.string y],u.oneCell'=true:=by
 intro u hu
 simp at hu
 rcases hu with rfl|rfl<;>rfl
theorem one_cell (w:World) (x:ByteArray) (T:TypeId):∀j u,[Value.string x][j]? = some u→(w.alloc (.cells #[.string x] T)).cell? ((⟨w.heap.size,0,none⟩:Addr).add j)=some u:=by
 intro j u hj
 match j,hj with
 | 0,hj=>simp at hj;subst hj;simp [Addr.add]
theorem one_one (x:ByteArray):∀u∈[Value.string x],u.oneCell'=true:=by
 intro u hu
 simp at hu
 subst hu;rfl
end WinR
end Go.Proofs.YtnceeaccbcfopaaGreatDoor
