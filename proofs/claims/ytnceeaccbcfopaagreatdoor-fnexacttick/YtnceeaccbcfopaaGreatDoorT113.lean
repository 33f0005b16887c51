/-
  The model's way to put a line among others in its place. The conditions: at most 1048575 lines, in a list that has room for them.
-/
import Derived.Deep.QuietTactic
import Derived.Test.YtnceeaccbcfopaaGreatDoorT112
namespace Go.Proofs.YtnceeaccbcfopaaGreatDoor
open Go.ChangeShapes Go.WideShapes Go.ChangeAt Go.RowKit
set_option linter.unusedVariables false
namespace NetR
open LinR RowG LtR
open DocR (BlkW BlkW.new BlkW.below)
theorem al (w:World) (o:Obj):Below w.heap.size w (w.alloc o):=(Below.refl _ _).alloc (Nat.le_refl _) _
theorem rws_sub {α:Type} {k:Nat} {cells:α→List Value} {z:α} {b off i n:Nat} {xs:List α} {w:World} (hk:∀x,(cells x).length=k) (h:Rws k cells z (some ⟨b,off,none⟩) xs w):∀j u,(cellsAll cells ((xs.drop i).take n))[j]? = some u→w.cell? ((⟨b,off+i*k,none⟩:Addr).add j)=some u:=by
 intro j u hj
 have hlt:=(List.getElem?_eq_some_iff.1 hj).1
 rw [cellsAll_len hk] at hlt
 have hk0:0<k:=by
  rcases Nat.eq_zero_or_pos k with e|e
  ·rw [e,Nat.mul_zero] at hlt;omega
  ·exact e
 obtain ⟨d,r,rfl,hr⟩:∃d r,j=d*k+r∧r<k:=⟨j / k,j % k,by rw [Nat.mul_comm];exact (Nat.div_add_mod j k).symm,Nat.mod_lt _ hk0⟩
 have hi:d<((xs.drop i).take n).length:=Nat.lt_of_mul_lt_mul_right (a:=k) (Nat.lt_of_le_of_lt (Nat.le_add_right _ _) hlt)
 have hi2:i+d<xs.length:=by simp at hi;omega
 have hn:d<n:=by simp at hi;omega
 have eg:((xs.drop i).take n).getD d z=xs.getD (i+d) z:=by simp [List.getD,hn]
 rw [cellsAll_get (z:=z) hk _ d r hi hr,eg] at hj
 rcases h with h0|⟨b',off',he,_,hc⟩
 ·omega
 ·simp only [Option.some.injEq,Addr.mk.injEq,and_true] at he
  obtain ⟨rfl,rfl⟩:=he
  have:=hc (i+d) hi2 r hr
  rw [Addr.add_lit,show off+i*k+(d*k+r)=off+(i+d)*k+r by rw [Nat.add_mul];omega,this]
  exact hj
theorem ins_cells {α:Type} {cells:α→List Value} (a:List α) (x:α) (b:List α):cellsAll cells (a++x::b)=cellsAll cells a++cells x++cellsAll cells b:=by simp [cellsAll]
theorem ins_len2 {α:Type} (ts:List α) (q:Nat) (t:α) (h:q≤ts.length):(ts.take q++t::ts.drop q).length=ts.length+1:=by simp;omega
theorem lis_one (L:List N):∀v∈cellsAll N.cells L,v.oneCell'=true:=by
 intro v hv
 simp only [cellsAll,List.mem_flatMap] at hv
 obtain ⟨x,_,h⟩:=hv
 exact two_one x v h
theorem bdn {B:Nat} {a w:World} (h:Below B a w) (n:Nat):Below B a (w.drewN n):=⟨h.os,h.tape,h.output,h.size,h.block⟩
theorem blkw_grown {b:Nat} {cs:List Value} {w w':World} {row:Option Nat} (h:BlkW b cs w) (hg:w.grownBy w' row) (hne:some b≠row):BlkW b cs w':=by
 have e:=hg.block b h.1.1 hne
 exact ⟨⟨by have:=hg.size;have:=h.1.1;omega,fun i hi=>(World.cell?_of_block (a:=⟨b,i,none⟩) e).trans (h.1.2 i hi)⟩,fun i hi=>(World.frozen?_of_block (a:=⟨b,i,none⟩) e).trans (h.2 i hi)⟩
theorem lis_two {b off:Nat} {L:List N} {w:World} (h:Lis (some ⟨b,off,none⟩) L w) (q:Nat) (hq:q<L.length):b<w.heap.size∧w.cell? ⟨b,off+q*2,none⟩=some (.string (L.getD q N.zero).i)∧w.cell? ⟨b,off+q*2+1,none⟩=some (.int .i64 (L.getD q N.zero).n):=by
 obtain ⟨b',off',e,hl,c0,c1⟩:=h.at q hq
 simp only [Option.some.injEq,Addr.mk.injEq,and_true] at e
 obtain ⟨rfl,rfl⟩:=e
 exact ⟨hl,c0,c1⟩
def fnd:List N→ByteArray→Bool
 | [],_=>false
 | y::l,x=>bif lt y.i x then fnd l x else y.i.toList==x.toList
theorem fnd_end:∀(L:List N) (x:ByteArray),(∀j,j<L.length→lt (L.getD j N.zero).i x=true)→fnd L x=false
 | [],x,_=>rfl
 | y::l,x,h=>by
  have h0:lt y.i x=true:=by simpa using h 0 (by simp)
  rw [fnd,h0,cond_true]
  exact fnd_end l x (fun j hj=>by simpa using h (j+1) (by simpa using hj))
theorem fnd_at:∀(L:List N) (x:ByteArray) (q:Nat),q<L.length→(∀j,j<q→lt (L.getD j N.zero).i x=true)→lt (L.getD q N.zero).i x=false→fnd L x=((L.getD q N.zero).i.toList==x.toList)
 | [],x,q,hq,_,_=>by simp at hq
 | y::l,x,0,hq,_,h1=>by
  have h2:lt y.i x=false:=by simpa using h1
  rw [fnd,h2,cond_false]
  rfl
 | y::l,x,q+1,hq,h0,h1=>by
  have h2:lt y.i x=true:=by simpa using h0 0 (by omega)
  rw [fnd,h2,cond_true]
  simpa using fnd_at l x q (by simpa using hq) (fun j hj=>by simpa using h0 (j+1) (by omega)) (by simpa using h1)
def SLn (b off cap:Nat) (L:List N) (xi:ByteArray) (xn:Int) (w:World) (e:Ending) (w':World):Prop :=
 (fnd L xi=true∧e=.returned (.tuple #[.slice (some ⟨b,off,none⟩) L.length cap,.bool false])∧Below w.heap.size w w') ∨
 (fnd L xi=false∧(∃v,e=.returned (.tuple #[v,.bool true])∧w'.ownsRow w.heap.size 209 2 v (put L ⟨xi,xn⟩).length (cellsAll N.cells (put L ⟨xi,xn⟩)))∧Below w.heap.size w w')
set_option maxRecDepth 100000 in
set_option maxHeartbeats 8000000 in
theorem sline (b off cap:Nat) (L:List N) (xi:ByteArray) (xn:Int) (w:World) (hl:L.length≤1048575) (hcap:L.length≤cap) (hcm:cap≤maxLen) (hT:Lis (some ⟨b,off,none⟩) L w) :
 Calls Tryz.prog 191 #[.slice (some ⟨b,off,none⟩) L.length cap,.agg #[.string xi,.int .i64 xn]] w (SLn b off cap L xi xn w):=by
 obtain ⟨i0,hi,hz0,hz1,hz2⟩:=info_parts infoN
 have HT:=H_ hT
 obtain ⟨len,hlen⟩:∃len,len=L.length:=⟨_,rfl⟩
 have HP:Hid (∀e w',SLn b off cap L xi xn w e w'↔(fnd L xi=true∧e=.returned (.tuple #[.slice (some ⟨b,off,none⟩) len cap,.bool false])∧Below w.heap.size w w')∨(fnd L xi=false∧(∃v,e=.returned (.tuple #[v,.bool true])∧w'.ownsRow w.heap.size 209 2 v (put L ⟨xi,xn⟩).length (cellsAll N.cells (put L ⟨xi,xn⟩)))∧Below w.heap.size w w')):=H_ (fun e w'=>by rw [hlen];rfl)
 rw [←hlen] at hl hcap ⊢
 have HL:=H_ hlen
 have HEND:Hid ((∀j,j<L.length→lt (L.getD j N.zero).i xi=true)→put L ⟨xi,xn⟩=L ++ [⟨xi,xn⟩]∧fnd L xi=false):=H_ (fun h=>⟨ins_end (z:=N.zero) (r:=nlt) (f:=addN) L ⟨xi,xn⟩ h,fnd_end L xi h⟩)
 have HAT:Hid (∀q,q<L.length→(∀j,j<q→lt (L.getD j N.zero).i xi=true)→lt (L.getD q N.zero).i xi=false→(lt xi (L.getD q N.zero).i=true→put L ⟨xi,xn⟩=L.take q++⟨xi,xn⟩::L.drop q)∧fnd L xi=((L.getD q N.zero).i.toList==xi.toList)):=H_ (fun q h1 h2 h3=>⟨(ins_at (z:=N.zero) (r:=nlt) (f:=addN) L ⟨xi,xn⟩ q h1 h2 h3).1,fnd_at L xi q h1 h2 h3⟩)
 generalize SLn b off cap L xi xn w=PP at *
 generalize put L ⟨xi,xn⟩=R at *
 generalize fnd L xi=F at *
 unfold maxLen at hcm
 clear hT hlen
 have HX0:=H_ (BlkW.new w [.string xi,.int .i64 xn] 209)
 have HB0:=H_ (al w (.cells #[.string xi,.int .i64 xn] 209))
 go_enter Tryz.func191,Tryz.ntmps191
 go_wp2_with fail
 go_loopw [6] (fun zv wr=>∃q:Nat,q≤len∧zv=.int .i64 (q:Int)∧Hid (Below w.heap.size w wr)∧Hid (BlkW w.heap.size [.string xi,.int .i64 xn] wr)∧Hid (∀j,j<q→lt (L.getD j N.zero).i xi=true)) (fun zv _=>len-(intOf zv).toNat)
 case atStart=>exact ⟨0,by omega,rfl,HB0,HX0,H_ (fun j hj=>absurd hj (by omega))⟩
 case round =>
  clear HX0 HB0
  obtain ⟨q,hq,rfl,HB,HX,HQ⟩:=hrel
  have c0:wr.cell? ⟨w.heap.size,0,none⟩=some (.string xi):=HX.out.1.2 0 (by simp)
  have hwl:=HX.out.1.1
  by_cases hlt1:q<len
  ·have hlt2:(q:Int)<(len:Int):=by omega
   have hqs:q<L.length:=by have:=HL.out;omega
   have HTQ:Hid (∀W,Below w.heap.size w W→b<W.heap.size∧W.cell? ⟨b,off+q*2,none⟩=some (.string (L.getD q N.zero).i)∧W.cell? ⟨b,off+q*2+1,none⟩=some (.int .i64 (L.getD q N.zero).n)):=H_ (fun W hW=>lis_two (HT.out.below hW) q hqs)
   cases hc:lt (L.getD q N.zero).i xi
   ·have HA:=H_ (HAT.out q hqs HQ.out hc)
    have hc1:=hc
    unfold lt at hc1
    generalize L.getD q N.zero=Y at *
    obtain ⟨yi,yn⟩:=Y
    dsimp only at hc1 HA hc HTQ
    obtain ⟨hbl,d0,d1⟩:=HTQ.out wr HB.out
    go_wp2_with fail
    go_quiet (fail)
    obtain ⟨W1,hWn⟩:∃Wn,Wn=wr.drewN nq:=⟨_,rfl⟩
    rw [←hWn]
    have HDW:Hid (Below wr.heap.size wr W1):=H_ (by rw [hWn];exact bdn (Below.refl _ _) _)
    clear hWn
    have HBn:=H_ (HB.out.trans (HDW.out.mono HB.out.size))
    have HXn:=H_ (HX.out.below HDW.out)
    clear HB HX HDW c0 hwl
    have HB:=HBn
    have HX:=HXn
    clear HBn HXn
    have c0:W1.cell? ⟨w.heap.size,0,none⟩=some (.string xi):=HX.out.1.2 0 (by simp)
    have hwl:=HX.out.1.1
    clear hbl d0 d1
    obtain ⟨hbl,d0,d1⟩:=HTQ.out W1 HB.out
    by_cases he:yi=xi
    ·have he2:=he.symm
     subst he2
     have he3:(xi.toList==xi.toList)=true:=by simp
     have HF:Hid (F=true):=H_ (HA.out.2.trans he3)
     go_wp2_with fail
     go_quiet (fail)
     obtain ⟨W2,hWn⟩:∃Wn,Wn=W1.drewN nq:=⟨_,rfl⟩
     rw [←hWn]
     have HDW:Hid (Below W1.heap.size W1 W2):=H_ (by rw [hWn];exact bdn (Below.refl _ _) _)
     clear hWn
     have HBn:=H_ (HB.out.trans (HDW.out.mono HB.out.size))
     have HXn:=H_ (HX.out.below HDW.out)
     clear HB HX HDW c0 hwl
     have HB:=HBn
     have HX:=HXn
     clear HBn HXn
     have c0:W2.cell? ⟨w.heap.size,0,none⟩=some (.string xi):=HX.out.1.2 0 (by simp)
     have hwl:=HX.out.1.1
     go_wp2_with fail
     try go_ret2
     exact (HP.out _ _).2 (.inl ⟨HF.out,rfl,HB.out⟩)
    ·have hc2:lt xi yi=true:=by
      cases h:lt xi yi
      ·exact absurd (toList_inj (bl_total hc1 (by unfold lt at h;exact h))) he
      ·rfl
     have he3:(yi.toList==xi.toList)=false:=by simpa using fun e=>he (toList_inj e)
     have HF:Hid (F=false):=H_ (HA.out.2.trans he3)
     have HI:Hid (R=L.take q++(⟨xi,xn⟩:N)::L.drop q):=H_ (HA.out.1 hc2)
     clear hc hc2 HA
     go_wp2_with fail
     go_quiet (fail)
     obtain ⟨W2,hWn⟩:∃Wn,Wn=W1.drewN nq:=⟨_,rfl⟩
     rw [←hWn]
     have HDW:Hid (Below W1.heap.size W1 W2):=H_ (by rw [hWn];exact bdn (Below.refl _ _) _)
     clear hWn
     have HBn:=H_ (HB.out.trans (HDW.out.mono HB.out.size))
     have HXn:=H_ (HX.out.below HDW.out)
     clear HB HX HDW c0 hwl
     have HB:=HBn
     have HX:=HXn
     clear HBn HXn
     have c0:W2.cell? ⟨w.heap.size,0,none⟩=some (.string xi):=HX.out.1.2 0 (by simp)
     have hwl:=HX.out.1.1
     clear hbl d0 d1
     have HE0:=H_ (own_empty W2 w.heap.size 209 2 HB.out.size)
     have hqc:(q:Int)≤(cap:Int):=by omega
     have hql:(q:Int)≤(len:Int):=by omega
     have HT1:=H_ (HT.out.below (HB.out.trans ((al W2 (.cells #[] 209)).mono HB.out.size)))
     clear c0 hwl
     go_wp2_with (at_builtin;refine wpList_append_own _ rfl _ _ 120 rfl w.heap.size 209 i0 (.agg #[.string ⟨#[]⟩,.int .i64 0]) 2 24 Tryz.underlying120 hi hz0 hz1 hz2 rfl (by decide) _ _ _ rfl HE0.out ⟨b,off,none⟩ q cap (cellsAll N.cells (L.take q)) rfl ?l1 ?d1 ?d2 ?d3 ?d4 (by have:=HB.out.size;simp;omega) ?_)
     case l1=>rw [cellsAll_len N.len,List.length_take];have:=HL.out;omega
     case d1=>exact fun j u hj=>by have h:=rws_sub (i:=0) (n:=q) N.len HT1.out j u (by simpa using hj);first|exact h|(rw [Addr.add_lit,Nat.zero_mul,Nat.add_zero] at h;exact h)
     case d2=>exact lis_one _
     case d3=>unfold maxLen;omega
     case d4=>omega
     intro v1 w6 hown hgrow hne
     have HO6:Hid (w6.ownsRow w.heap.size 209 2 v1 q (cellsAll N.cells (L.take q))):=H_ (by first|exact hown|simpa using hown)
     have HB6:Hid (Below w.heap.size w w6):=H_ ((HB.out.trans ((al W2 (.cells #[] 209)).mono HB.out.size)).grown hgrow (by have:=HB.out.size;simp;omega) (fun c hc=>by have:=HX.out.1.1;simp [Value.ownBlock] at hc;omega))
     have HX6:Hid (BlkW w.heap.size [.string xi,.int .i64 xn] w6):=H_ (blkw_grown (HX.out.below (al W2 (.cells #[] 209))) hgrow (fun e=>by have:=HX.out.1.1;simp [Value.ownBlock] at e;omega))
     clear hown hgrow hne HE0 HT1 HX HB
     have c0:w6.cell? ⟨w.heap.size,0,none⟩=some (.string xi):=HX6.out.1.2 0 (by simp)
     have c1:w6.cell? ⟨w.heap.size,1,none⟩=some (.int .i64 xn):=HX6.out.1.2 1 (by simp)
     have hwl:=HX6.out.1.1
     go_wp2_with (at_builtin;refine wpList_append_own _ rfl _ _ 120 rfl w.heap.size 209 i0 (.agg #[.string ⟨#[]⟩,.int .i64 0]) 2 24 Tryz.underlying120 hi hz0 hz1 hz2 rfl (by decide) _ _ _ rfl (HO6.out.alloc _) ⟨w6.heap.size,0,none⟩ 1 1 (N.cells ⟨xi,xn⟩) rfl rfl (two_cells _ _ _ _) (two_one _) ?d3 ?d4 (by have:=HB6.out.size;simp;omega) ?_)
     case d3=>unfold maxLen;omega
     case d4=>omega
     intro v2 w7 hown hgrow hne
     have HO7:Hid (w7.ownsRow w.heap.size 209 2 v2 (q+1) (cellsAll N.cells (L.take q)++N.cells ⟨xi,xn⟩)):=H_ hown
     have HB7:Hid (Below w.heap.size w w7):=H_ ((HB6.out.trans ((al w6 _).mono HB6.out.size)).grown hgrow (by have:=HB6.out.size;simp;omega) (fun c hc=>(HO6.out.lt c hc).1))
     have HT7:=H_ (HT.out.below HB7.out)
     clear hown hgrow hne c0 c1 hwl
     by_cases hcq:cap=q
     ·obtain rfl:q=len:=by omega
      have hcq2:=hcq.symm
      subst hcq2
      go_wp2_with (at_builtin;refine wpList_append_own _ rfl _ _ 120 rfl w.heap.size 209 i0 (.agg #[.string ⟨#[]⟩,.int .i64 0]) 2 24 Tryz.underlying120 hi hz0 hz1 hz2 rfl (by decide) _ _ _ rfl HO7.out ⟨b,off,none⟩ 0 0 [] rfl rfl (fun _ _ h=>by simp at h) (fun _ h=>by simp at h) (by unfold maxLen;omega) (by omega) HB7.out.size ?_)
      intro v3 w8 hown hgrow hne
      have HO8:Hid (w8.ownsRow w.heap.size 209 2 v3 (L.take q++(⟨xi,xn⟩:N)::L.drop q).length (cellsAll N.cells (L.take q++(⟨xi,xn⟩:N)::L.drop q))):=H_ (by
       rw [ins_cells,ins_len2 _ _ _ (by have:=HL.out;omega),←HL.out]
       rw [List.drop_of_length_le (by have:=HL.out;omega)]
       first|exact hown|simpa [cellsAll] using hown)
      have HB8:Hid (Below w.heap.size w w8):=H_ (HB7.out.grown hgrow HB7.out.size (fun c hc=>(HO7.out.lt c hc).1))
      clear hown hgrow hne
      rw [←HI.out] at HO8
      go_wp2_with fail
      try go_ret2
      exact (HP.out _ _).2 (.inr ⟨HF.out,⟨_,rfl,HO8.out⟩,HB8.out⟩)
     ·go_wp2_with (at_builtin;refine wpList_append_own _ rfl _ _ 120 rfl w.heap.size 209 i0 (.agg #[.string ⟨#[]⟩,.int .i64 0]) 2 24 Tryz.underlying120 hi hz0 hz1 hz2 rfl (by decide) _ _ _ rfl HO7.out ⟨b,off+q*2,none⟩ (len-q) (cap-q) (cellsAll N.cells (L.drop q)) rfl ?l1 ?d5 ?d6 ?d7 ?d8 HB7.out.size ?_)
      case l1=>rw [cellsAll_len N.len,List.length_drop];have:=HL.out;omega
      case d5=>exact fun j u hj=>rws_sub (i:=q) (n:=L.length-q) N.len HT7.out j u (by rw [List.take_of_length_le (by simp)];exact hj)
      case d6=>exact lis_one _
      case d7=>unfold maxLen;omega
      case d8=>omega
      intro v3 w8 hown hgrow hne
      have HO8:Hid (w8.ownsRow w.heap.size 209 2 v3 (L.take q++(⟨xi,xn⟩:N)::L.drop q).length (cellsAll N.cells (L.take q++(⟨xi,xn⟩:N)::L.drop q))):=H_ (by
       rw [ins_cells,ins_len2 _ _ _ (by have:=HL.out;omega),←HL.out]
       rw [show len+1=q+1+(len-q) by omega,List.append_assoc]
       exact hown)
      have HB8:Hid (Below w.heap.size w w8):=H_ (HB7.out.grown hgrow HB7.out.size (fun c hc=>(HO7.out.lt c hc).1))
      clear hown hgrow hne
      rw [←HI.out] at HO8
      go_wp2_with fail
      try go_ret2
      exact (HP.out _ _).2 (.inr ⟨HF.out,⟨_,rfl,HO8.out⟩,HB8.out⟩)
   ·have HQ2:Hid (∀j,j<q+1→lt (L.getD j N.zero).i xi=true):=H_ (fun j hj=>by
     rcases Nat.lt_succ_iff_lt_or_eq.1 hj with h|rfl
     ·exact HQ.out j h
     ·exact hc)
    have hc1:=hc
    unfold lt at hc1
    generalize L.getD q N.zero=Y at *
    obtain ⟨yi,yn⟩:=Y
    dsimp only at hc1 hc HTQ
    obtain ⟨hbl,d0,d1⟩:=HTQ.out wr HB.out
    clear hc
    go_wp2_with fail
    go_quiet (fail)
    obtain ⟨W1,hWn⟩:∃Wn,Wn=wr.drewN nq:=⟨_,rfl⟩
    rw [←hWn]
    have HDW:Hid (Below wr.heap.size wr W1):=H_ (by rw [hWn];exact bdn (Below.refl _ _) _)
    clear hWn
    have HBn:=H_ (HB.out.trans (HDW.out.mono HB.out.size))
    have HXn:=H_ (HX.out.below HDW.out)
    clear HB HX HDW c0 hwl
    have HB:=HBn
    have HX:=HXn
    clear HBn HXn
    have c0:W1.cell? ⟨w.heap.size,0,none⟩=some (.string xi):=HX.out.1.2 0 (by simp)
    have hwl:=HX.out.1.1
    go_wp2_with fail
    go_roundw
    case rel=>exact ⟨q+1,by omega,by go_num,HB,HX,HQ2⟩
    case measure=>simp [intOf];omega
  ·have hlt2:¬(q:Int)<(len:Int):=by omega
   have he:q=L.length:=by have:=HL.out;omega
   have HI:Hid (R=L.take q++(⟨xi,xn⟩:N)::L.drop q):=H_ (by rw [(HEND.out (fun j hj=>HQ.out j (by omega))).1,he];simp)
   have HF:Hid (F=false):=H_ (HEND.out (fun j hj=>HQ.out j (by omega))).2
   clear he
   go_wp2_with fail
   go_quiet (fail)
   obtain ⟨W1,hWn⟩:∃Wn,Wn=wr.drewN nq:=⟨_,rfl⟩
   rw [←hWn]
   have HDW:Hid (Below wr.heap.size wr W1):=H_ (by rw [hWn];exact bdn (Below.refl _ _) _)
   clear hWn
   have HBn:=H_ (HB.out.trans (HDW.out.mono HB.out.size))
   have HXn:=H_ (HX.out.below HDW.out)
   clear HB HX HDW c0 hwl
   have HB:=HBn
   have HX:=HXn
   clear HBn HXn
   have c0:W1.cell? ⟨w.heap.size,0,none⟩=some (.string xi):=HX.out.1.2 0 (by simp)
   have hwl:=HX.out.1.1
   go_wp2_with fail
   go_quiet (fail)
   obtain ⟨W2,hWn⟩:∃Wn,Wn=W1.drewN nq:=⟨_,rfl⟩
   rw [←hWn]
   have HDW:Hid (Below W1.heap.size W1 W2):=H_ (by rw [hWn];exact bdn (Below.refl _ _) _)
   clear hWn
   have HBn:=H_ (HB.out.trans (HDW.out.mono HB.out.size))
   have HXn:=H_ (HX.out.below HDW.out)
   clear HB HX HDW c0 hwl
   have HB:=HBn
   have HX:=HXn
   clear HBn HXn
   have c0:W2.cell? ⟨w.heap.size,0,none⟩=some (.string xi):=HX.out.1.2 0 (by simp)
   have hwl:=HX.out.1.1
   have HE0:=H_ (own_empty W2 w.heap.size 209 2 HB.out.size)
   have hqc:(q:Int)≤(cap:Int):=by omega
   have hql:(q:Int)≤(len:Int):=by omega
   have HT1:=H_ (HT.out.below (HB.out.trans ((al W2 (.cells #[] 209)).mono HB.out.size)))
   clear c0 hwl
   go_wp2_with (at_builtin;refine wpList_append_own _ rfl _ _ 120 rfl w.heap.size 209 i0 (.agg #[.string ⟨#[]⟩,.int .i64 0]) 2 24 Tryz.underlying120 hi hz0 hz1 hz2 rfl (by decide) _ _ _ rfl HE0.out ⟨b,off,none⟩ q cap (cellsAll N.cells (L.take q)) rfl ?l1 ?d1 ?d2 ?d3 ?d4 (by have:=HB.out.size;simp;omega) ?_)
   case l1=>rw [cellsAll_len N.len,List.length_take];have:=HL.out;omega
   case d1=>exact fun j u hj=>by have h:=rws_sub (i:=0) (n:=q) N.len HT1.out j u (by simpa using hj);first|exact h|(rw [Addr.add_lit,Nat.zero_mul,Nat.add_zero] at h;exact h)
   case d2=>exact lis_one _
   case d3=>unfold maxLen;omega
   case d4=>omega
   intro v1 w6 hown hgrow hne
   have HO6:Hid (w6.ownsRow w.heap.size 209 2 v1 q (cellsAll N.cells (L.take q))):=H_ (by first|exact hown|simpa using hown)
   have HB6:Hid (Below w.heap.size w w6):=H_ ((HB.out.trans ((al W2 (.cells #[] 209)).mono HB.out.size)).grown hgrow (by have:=HB.out.size;simp;omega) (fun c hc=>by have:=HX.out.1.1;simp [Value.ownBlock] at hc;omega))
   have HX6:Hid (BlkW w.heap.size [.string xi,.int .i64 xn] w6):=H_ (blkw_grown (HX.out.below (al W2 (.cells #[] 209))) hgrow (fun e=>by have:=HX.out.1.1;simp [Value.ownBlock] at e;omega))
   clear hown hgrow hne HE0 HT1 HX HB
   have c0:w6.cell? ⟨w.heap.size,0,none⟩=some (.string xi):=HX6.out.1.2 0 (by simp)
   have c1:w6.cell? ⟨w.heap.size,1,none⟩=some (.int .i64 xn):=HX6.out.1.2 1 (by simp)
   have hwl:=HX6.out.1.1
   go_wp2_with (at_builtin;refine wpList_append_own _ rfl _ _ 120 rfl w.heap.size 209 i0 (.agg #[.string ⟨#[]⟩,.int .i64 0]) 2 24 Tryz.underlying120 hi hz0 hz1 hz2 rfl (by decide) _ _ _ rfl (HO6.out.alloc _) ⟨w6.heap.size,0,none⟩ 1 1 (N.cells ⟨xi,xn⟩) rfl rfl (two_cells _ _ _ _) (two_one _) ?d3 ?d4 (by have:=HB6.out.size;simp;omega) ?_)
   case d3=>unfold maxLen;omega
   case d4=>omega
   intro v2 w7 hown hgrow hne
   have HO7:Hid (w7.ownsRow w.heap.size 209 2 v2 (q+1) (cellsAll N.cells (L.take q)++N.cells ⟨xi,xn⟩)):=H_ hown
   have HB7:Hid (Below w.heap.size w w7):=H_ ((HB6.out.trans ((al w6 _).mono HB6.out.size)).grown hgrow (by have:=HB6.out.size;simp;omega) (fun c hc=>(HO6.out.lt c hc).1))
   have HT7:=H_ (HT.out.below HB7.out)
   clear hown hgrow hne c0 c1 hwl
   by_cases hcq:cap=q
   ·obtain rfl:q=len:=by omega
    have hcq2:=hcq.symm
    subst hcq2
    go_wp2_with (at_builtin;refine wpList_append_own _ rfl _ _ 120 rfl w.heap.size 209 i0 (.agg #[.string ⟨#[]⟩,.int .i64 0]) 2 24 Tryz.underlying120 hi hz0 hz1 hz2 rfl (by decide) _ _ _ rfl HO7.out ⟨b,off,none⟩ 0 0 [] rfl rfl (fun _ _ h=>by simp at h) (fun _ h=>by simp at h) (by unfold maxLen;omega) (by omega) HB7.out.size ?_)
    intro v3 w8 hown hgrow hne
    have HO8:Hid (w8.ownsRow w.heap.size 209 2 v3 (L.take q++(⟨xi,xn⟩:N)::L.drop q).length (cellsAll N.cells (L.take q++(⟨xi,xn⟩:N)::L.drop q))):=H_ (by
     rw [ins_cells,ins_len2 _ _ _ (by have:=HL.out;omega),←HL.out]
     rw [List.drop_of_length_le (by have:=HL.out;omega)]
     first|exact hown|simpa [cellsAll] using hown)
    have HB8:Hid (Below w.heap.size w w8):=H_ (HB7.out.grown hgrow HB7.out.size (fun c hc=>(HO7.out.lt c hc).1))
    clear hown hgrow hne
    rw [←HI.out] at HO8
    go_wp2_with fail
    try go_ret2
    exact (HP.out _ _).2 (.inr ⟨HF.out,⟨_,rfl,HO8.out⟩,HB8.out⟩)
   ·go_wp2_with (at_builtin;refine wpList_append_own _ rfl _ _ 120 rfl w.heap.size 209 i0 (.agg #[.string ⟨#[]⟩,.int .i64 0]) 2 24 Tryz.underlying120 hi hz0 hz1 hz2 rfl (by decide) _ _ _ rfl HO7.out ⟨b,off+q*2,none⟩ (len-q) (cap-q) (cellsAll N.cells (L.drop q)) rfl ?l1 ?d5 ?d6 ?d7 ?d8 HB7.out.size ?_)
    case l1=>rw [cellsAll_len N.len,List.length_drop];have:=HL.out;omega
    case d5=>exact fun j u hj=>rws_sub (i:=q) (n:=L.length-q) N.len HT7.out j u (by rw [List.take_of_length_le (by simp)];exact hj)
    case d6=>exact lis_one _
    case d7=>unfold maxLen;omega
    case d8=>omega
    intro v3 w8 hown hgrow hne
    have HO8:Hid (w8.ownsRow w.heap.size 209 2 v3 (L.take q++(⟨xi,xn⟩:N)::L.drop q).length (cellsAll N.cells (L.take q++(⟨xi,xn⟩:N)::L.drop q))):=H_ (by
     rw [ins_cells,ins_len2 _ _ _ (by have:=HL.out;omega),←HL.out]
     rw [show len+1=q+1+(len-q) by omega,List.append_assoc]
     exact hown)
    have HB8:Hid (Below w.heap.size w w8):=H_ (HB7.out.grown hgrow HB7.out.size (fun c hc=>(HO7.out.lt c hc).1))
    clear hown hgrow hne
    rw [←HI.out] at HO8
    go_wp2_with fail
    try go_ret2
    exact (HP.out _ _).2 (.inr ⟨HF.out,⟨_,rfl,HO8.out⟩,HB8.out⟩)
end NetR
end Go.Proofs.YtnceeaccbcfopaaGreatDoor
