/-
  A text put among others in its place, the model's way. The conditions: at most 1048575 texts, in a list that has room for them.
  What is held while two windows are joined; the greater of two numbers, the model's way. No condition.
-/
import Derived.Test.YteejpnkmnmoebaaDoorJ6
namespace Go.Proofs.YteejpnkmnmoebaaDoor
open Go.ChangeShapes Go.WideShapes Go.ChangeAt Go.RowKit
set_option linter.unusedVariables false
namespace WinR
open RowG (MadeG Rws cellsAll cellsAll_len cellsAll_get own_made take_more getD_mem)
open LtR
theorem al (w:World) (o:Obj):Below w.heap.size w (w.alloc o):=(Below.refl _ _).alloc (Nat.le_refl _) _
theorem own_empty (w:World) (base e size:Nat) (hb:base≤w.heap.size):(w.alloc (.cells #[] e)).ownsRow base e size (.slice (some ⟨w.heap.size,0,none⟩) 0 0) 0 [] :=
 World.ownsRow_made w #[] 0 hb (by unfold maxLen;omega) (by simp)
theorem rws_sub {α:Type} {k:Nat} {cells:α→List Value} {z:α} {b off i n:Nat} {xs:List α} {w:World} (hk:∀x,(cells x).length=k) (h:Rws k cells z (some ⟨b,off,none⟩) xs w):∀j u,(cellsAll cells ((xs.drop i).take n))[j]? = some u→w.cell? ((⟨b,off+i*k,none⟩:Addr).add j)=some u:=by
 intro j u hj
 have hlt:=(List.getElem?_eq_some_iff.1 hj).1
 rw [cellsAll_len hk] at hlt
 have hk0:0<k:=by
  rcases Nat.eq_zero_or_pos k with e|e
  ·rw [e,Nat.mul_zero] at hlt;omega
  ·exact e
 obtain ⟨d,r,rfl,hr⟩:∃d r,j=d*k+r∧r<k:=⟨j / k,j % k,by rw [Nat.mul_comm];exact (Nat.div_add_mod j k).symm,Nat.mod_lt _ hk0⟩
 have hi:d<((xs.drop i).take n).length:=Nat.lt_of_mul_lt_mul_right (a:=k) (Nat.lt_of_le_of_lt (Nat.le_add_right _ _) hlt)
 have hi2:i+d<xs.length:=by simp at hi;omega
 have hn:d<n:=by simp at hi;omega
 have eg:((xs.drop i).take n).getD d z=xs.getD (i+d) z:=by simp [List.getD,hn]
 rw [cellsAll_get (z:=z) hk _ d r hi hr,eg] at hj
 rcases h with h0|⟨b',off',he,_,hc⟩
 ·omega
 ·simp only [Option.some.injEq,Addr.mk.injEq,and_true] at he
  obtain ⟨rfl,rfl⟩:=he
  have:=hc (i+d) hi2 r hr
  rw [Addr.add_lit,show off+i*k+(d*k+r)=off+(i+d)*k+r by rw [Nat.add_mul];omega,this]
  exact hj
theorem t_one (ts:List ByteArray):∀v∈cellsAll tcells ts,v.oneCell'=true:=by
 intro v hv
 simp only [cellsAll,List.mem_flatMap,tcells,List.mem_cons,List.not_mem_nil,or_false] at hv
 obtain ⟨x,_,rfl⟩:=hv
 rfl
theorem ins_cells {α:Type} {cells:α→List Value} (a:List α) (x:α) (b:List α):cellsAll cells (a++x::b)=cellsAll cells a++cells x++cellsAll cells b:=by simp [cellsAll]
theorem ins_len {α:Type} (ts:List α) (q:Nat) (t:α) (h:q≤ts.length):(ts.take q++t::ts.drop q).length=ts.length+1:=by simp;omega
theorem own_some {α:Type} {k:Nat} {cells:α→List Value} {z:α} {w:World} {base T:Nat} {v:Value} {xs:List α} (hk:∀x,(cells x).length=k) (h:w.ownsRow base T k v xs.length (cellsAll cells xs)) (hn:xs.length≠0):∃b' o' c',v=.slice (some ⟨b',o',none⟩) xs.length c'∧Rws k cells z (some ⟨b',o',none⟩) xs w∧xs.length≤c'∧c'≤maxLen∧base≤b':=by
 obtain ⟨ao,cp,e,hm⟩:=own_made (z:=z) hk h
 rcases h.2 with ⟨h0,h1⟩|⟨g,cap,cur,hv,hbb,_,h1,h2,_⟩
 ·exact absurd h1 hn
 ·rw [hv] at e
  simp only [Value.slice.injEq] at e
  obtain ⟨rfl,_,rfl⟩:=e
  exact ⟨g,0,cap,hv,hm.rws,h1,h2,hbb⟩
section
variable {α:Type} {lt:α→α→Bool} {f:α→α→α} {z:α}
theorem ins_end:∀(xs:List α) (y:α),(∀j,j<xs.length→lt (xs.getD j z) y=true)→ins lt f xs y=xs ++ [y]
 | [],y,_=>rfl
 | x::xs,y,h=>by
  have h0:lt x y=true:=by simpa using h 0 (by simp)
  rw [ins,if_pos h0,ins_end xs y (fun j hj=>by simpa using h (j+1) (by simpa using hj))]
  rfl
theorem ins_at:∀(xs:List α) (y:α) (q:Nat),q<xs.length→(∀j,j<q→lt (xs.getD j z) y=true)→lt (xs.getD q z) y=false →
 (lt y (xs.getD q z)=true→ins lt f xs y=xs.take q++y::xs.drop q)∧(lt y (xs.getD q z)=false→ins lt f xs y=xs.take q++f (xs.getD q z) y::xs.drop (q+1))
 | [],y,q,hq,_,_=>by simp at hq
 | x::xs,y,0,hq,_,h1=>by
  have h2:lt x y=false:=by simpa using h1
  constructor
  ·intro h3
   have h4:lt y x=true:=by simpa using h3
   rw [ins,if_neg (by simp [h2]),if_pos h4]
   rfl
  ·intro h3
   have h4:lt y x=false:=by simpa using h3
   rw [ins,if_neg (by simp [h2]),if_neg (by simp [h4])]
   simp
 | x::xs,y,q+1,hq,h0,h1=>by
  have h2:lt x y=true:=by simpa using h0 0 (by omega)
  have ih:=ins_at xs y q (by simpa using hq) (fun j hj=>by simpa using h0 (j+1) (by omega)) (by simpa using h1)
  constructor
  ·intro h3
   rw [ins,if_pos h2,ih.1 (by simpa using h3)]
   simp
  ·intro h3
   rw [ins,if_pos h2,ih.2 (by simpa using h3)]
   simp
end
theorem take_drop_get:∀(ts:List ByteArray) (q:Nat),q<ts.length→ts.take q++ts.getD q tz::ts.drop (q+1)=ts
 | [],q,h=>by simp at h
 | x::xs,0,_=>by simp
 | x::xs,q+1,h=>by
  have:=take_drop_get xs q (by simpa using h)
  simpa using this
def fstT (x y:ByteArray):ByteArray:=x
set_option maxRecDepth 100000 in
set_option maxHeartbeats 8000000 in
def TgO (D:Nat) (ao:Option Addr) (ts:List ByteArray) (c:Nat) (W:World):Prop:=Tgs ao ts W∧W.ownsRow D 9 1 (.slice ao ts.length c) ts.length (cellsAll tcells ts)
theorem own_lowT {w:World} {base base' e size n:Nat} {v:Value} {xs:List Value} (h:w.ownsRow base e size v n xs) (hb:base'≤base):w.ownsRow base' e size v n xs:=by
 obtain ⟨h1,h|⟨g,c,cur,h2,h3,h4⟩⟩:=h
 ·exact ⟨h1,.inl h⟩
 ·exact ⟨h1,.inr ⟨g,c,cur,h2,by omega,h4⟩⟩
theorem TgO.low {D D':Nat} {ao:Option Addr} {ts:List ByteArray} {c:Nat} {W:World} (h:TgO D ao ts c W) (hD:D'≤D):TgO D' ao ts c W:=⟨h.1,own_lowT h.2 hD⟩
theorem TgO.below {D:Nat} {ao:Option Addr} {ts:List ByteArray} {c:Nat} {W W':World} (h:TgO D ao ts c W) (hb:Below W.heap.size W W'):TgO D ao ts c W':=⟨h.1.below hb,RowG.own_below h.2 hb⟩
theorem TgO.far {D:Nat} {ao:Option Addr} {ts:List ByteArray} {c g:Nat} {W W':World} (h:TgO D ao ts c W) (hg:W.grownBy W' (some g)) (hne:∀b off,ao=some ⟨b,off,none⟩→b≠g):TgO D ao ts c W':=by
 refine ⟨h.1.grown hg (.inr (fun b off e q=>hne b off e (by simpa using q))),h.2.kept hg ?_⟩
 cases hb:(Value.slice ao ts.length c).ownBlock with
 | none=>exact .inl rfl
 | some b =>
  refine .inr (fun e=>?_)
  rcases h.2.2 with ⟨h0,_⟩|⟨g',cap,cur,hv,_⟩
  ·rw [h0] at hb;simp [Value.ownBlock] at hb
  ·rw [hv] at hb
   simp only [Value.slice.injEq] at hv
   simp only [Value.ownBlock,Option.some.injEq] at hb
   exact hne g' 0 hv.1 (by simp only [Option.some.injEq] at e;omega)
theorem stext (b off cap:Nat) (ts:List ByteArray) (t:ByteArray) (w:World) (hl:ts.length≤1048575) (hcap:ts.length≤cap) (hcm:cap≤maxLen) (hT:Tgs (some ⟨b,off,none⟩) ts w) (D:Nat) (hD:D≤w.heap.size) (hO:w.ownsRow D 9 1 (.slice (some ⟨b,off,none⟩) ts.length cap) ts.length (cellsAll tcells ts)) :
 Calls Tryd.prog 48 #[.slice (some ⟨b,off,none⟩) ts.length cap,.string t] w fun e w'=>∃b' o' c',e=.returned (.slice (some ⟨b',o',none⟩) (ins lt fstT ts t).length c')∧TgO D (some ⟨b',o',none⟩) (ins lt fstT ts t) c' w'∧(ins lt fstT ts t).length≤c'∧c'≤maxLen∧(b'=b∨w.heap.size≤b')∧Below w.heap.size w w':=by
 obtain ⟨i0,hi,hz0,hz1,hz2⟩:=info_parts infoT
 have HT:=H_ hT
 have HO:=H_ hO
 have HD:=H_ hD
 clear hO hD
 obtain ⟨len,hlen⟩:∃len,len=ts.length:=⟨_,rfl⟩
 rw [←hlen] at hl hcap ⊢
 have HL:=H_ hlen
 have HEND:Hid ((∀j,j<ts.length→lt (ts.getD j tz) t=true)→ins lt fstT ts t=ts ++ [t]):=H_ (ins_end ts t)
 have HAT:Hid (∀q,q<ts.length→(∀j,j<q→lt (ts.getD j tz) t=true)→lt (ts.getD q tz) t=false→(lt t (ts.getD q tz)=true→ins lt fstT ts t=ts.take q++t::ts.drop q)∧(lt t (ts.getD q tz)=false→ins lt fstT ts t=ts.take q++fstT (ts.getD q tz) t::ts.drop (q+1))):=H_ (fun q=>ins_at ts t q)
 generalize ins lt fstT ts t=R at *
 unfold maxLen at hcm
 clear hT hlen
 go_enter Tryd.func48,Tryd.ntmps48
 go_wp2_with fail
 go_loopw [5] (fun zv wr=>∃q:Nat,q≤len∧zv=.int .i64 (q:Int)∧w=wr∧Hid (∀j,j<q→lt (ts.getD j tz) t=true)) (fun zv _=>len-(intOf zv).toNat)
 case atStart=>exact ⟨0,by omega,rfl,rfl,H_ (fun j hj=>absurd hj (by omega))⟩
 case round =>
  obtain ⟨q,hq,rfl,hwr,HQ⟩:=hrel
  subst hwr
  by_cases hlt:q<len
  ·have hlt2:(q:Int)<(len:Int):=by omega
   have hqs:q<ts.length:=by have:=HL.out;omega
   obtain ⟨b0,off0,he0,hbl,c0⟩:=HT.out.at q hqs
   simp only [Option.some.injEq,Addr.mk.injEq,and_true] at he0
   obtain ⟨rfl,rfl⟩:=he0
   cases hc:lt (ts.getD q tz) t
   ·have HA:=H_ (HAT.out q hqs HQ.out hc)
    obtain ⟨Y,hY⟩:∃Y,Y=ts.getD q tz:=⟨_,rfl⟩
    have HY:=H_ hY
    rw [←hY] at HA hc c0
    clear hY
    have hc1:=hc
    unfold lt at hc1
    by_cases he:Y=t
    ·subst he
     have hins:R=ts:=by
      have h:=HA.out.2 (by unfold lt;exact bl_irrefl _)
      unfold fstT at h
      rw [h,HY.out]
      exact take_drop_get ts q hqs
     subst hins
     have he3:(Y.toList==Y.toList)=true:=by simp
     go_wp2_with fail
     go_ret
     exact ⟨b,off,cap,by rw [HL.out];rfl,⟨HT.out,HO.out⟩,by have:=HL.out;omega,by unfold maxLen;omega,.inl rfl,Below.refl _ _⟩
    ·have hc2:lt t Y=true:=by
      cases h:lt t Y
      ·exact absurd (toList_inj (bl_total hc1 (by unfold lt at h;exact h))) he
      ·rfl
     have hins:=HA.out.1 hc2
     have he3:(Y.toList==t.toList)=false:=by simpa using fun e=>he (toList_inj e)
     clear HA hc hc2
     have HI:=H_ hins
     have HE0:=H_ (own_empty w w.heap.size 9 1 (Nat.le_refl _))
     have hqc:(q:Int)≤(cap:Int):=by omega
     have hql:(q:Int)≤(len:Int):=by omega
     have HT1:=H_ (HT.out.below (al w (.cells #[] 9)))
     clear hins
     go_wp2_with (at_builtin;refine wpList_append_own _ rfl _ _ 23 rfl w.heap.size 9 i0 (.string ⟨#[]⟩) 1 16 Tryd.underlying23 hi hz0 hz1 hz2 rfl (by decide) _ _ _ rfl HE0.out ⟨b,off,none⟩ q cap (cellsAll tcells (ts.take q)) rfl ?l1 ?d1 ?d2 ?d3 ?d4 (by simp) ?_)
     case l1=>rw [cellsAll_len t_len,List.length_take];have:=HL.out;omega
     case d1=>exact fun j u hj=>by have h:=rws_sub (i:=0) (n:=q) t_len HT1.out j u (by simpa using hj);first|exact h|(rw [Addr.add_lit,Nat.zero_mul,Nat.add_zero] at h;exact h)
     case d2=>exact t_one _
     case d3=>unfold maxLen;omega
     case d4=>omega
     intro v1 w6 hown hgrow hne
     have HO6:Hid (w6.ownsRow w.heap.size 9 1 v1 q (cellsAll tcells (ts.take q))):=H_ (by first|exact hown|simpa using hown)
     have HB6:Hid (Below w.heap.size w w6):=H_ ((al w _).grown hgrow (by simp) (fun c hc=>by simp [Value.ownBlock] at hc;omega))
     clear hown hgrow hne HE0 HT1
     go_wp2_with (at_builtin;refine wpList_append_own _ rfl _ _ 23 rfl w.heap.size 9 i0 (.string ⟨#[]⟩) 1 16 Tryd.underlying23 hi hz0 hz1 hz2 rfl (by decide) _ _ _ rfl (HO6.out.alloc _) ⟨w6.heap.size,0,none⟩ 1 1 [.string t] rfl rfl ?d1 ?d2 ?d3 ?d4 (by have:=HB6.out.size;simp;omega) ?_)
     case d1=>exact one_cell _ _ _
     case d2=>exact one_one _
     case d3=>unfold maxLen;omega
     case d4=>omega
     intro v2 w7 hown hgrow hne
     have HO7:Hid (w7.ownsRow w.heap.size 9 1 v2 (q+1) (cellsAll tcells (ts.take q) ++ [.string t])):=H_ hown
     have HB7:Hid (Below w.heap.size w w7):=H_ ((HB6.out.trans ((al w6 _).mono HB6.out.size)).grown hgrow (by have:=HB6.out.size;simp;omega) (fun c hc=>(HO6.out.lt c hc).1))
     have HT7:=H_ (HT.out.below HB7.out)
     clear hown hgrow hne
     by_cases hcq:cap=q
     ·obtain rfl:q=len:=by omega
      have hcq2:=hcq.symm
      subst hcq2
      go_wp2_with (at_builtin;refine wpList_append_own _ rfl _ _ 23 rfl w.heap.size 9 i0 (.string ⟨#[]⟩) 1 16 Tryd.underlying23 hi hz0 hz1 hz2 rfl (by decide) _ _ _ rfl HO7.out ⟨b,off,none⟩ 0 0 [] rfl rfl (fun _ _ h=>by simp at h) (fun _ h=>by simp at h) (by unfold maxLen;omega) (by omega) HB7.out.size ?_)
      intro v3 w8 hown hgrow hne
      have HO8:Hid (w8.ownsRow w.heap.size 9 1 v3 (ts.take q++t::ts.drop q).length (cellsAll tcells (ts.take q++t::ts.drop q))):=H_ (by
       rw [ins_cells,ins_len _ _ _ (by have:=HL.out;omega),←HL.out,List.drop_of_length_le (by have:=HL.out;omega)]
       first|exact hown|simpa [cellsAll,tcells] using hown)
      have HB8:Hid (Below w.heap.size w w8):=H_ (HB7.out.grown hgrow HB7.out.size (fun c hc=>(HO7.out.lt c hc).1))
      clear hown hgrow hne
      rw [←HI.out] at HO8
      obtain ⟨b',o',c',rfl,m1,m2,m3⟩:=own_some (z:=tz) t_len HO8.out (by rw [HI.out];simp)
      go_wp2_with fail
      go_ret
      exact ⟨b',o',c',rfl,⟨m1,own_lowT HO8.out HD.out⟩,m2,m3.1,.inr (by have:=m3.2;omega),HB8.out⟩
     ·go_wp2_with (at_builtin;refine wpList_append_own _ rfl _ _ 23 rfl w.heap.size 9 i0 (.string ⟨#[]⟩) 1 16 Tryd.underlying23 hi hz0 hz1 hz2 rfl (by decide) _ _ _ rfl HO7.out ⟨b,off+q,none⟩ (len-q) (cap-q) (cellsAll tcells (ts.drop q)) rfl ?l1 ?d5 ?d6 ?d7 ?d8 HB7.out.size ?_)
      case l1=>rw [cellsAll_len t_len,List.length_drop];have:=HL.out;omega
      case d5=>exact fun j u hj=>by have:=rws_sub (i:=q) (n:=ts.length-q) t_len HT7.out j u (by rw [List.take_of_length_le (by simp)];exact hj);rw [Nat.mul_one] at this;exact this
      case d6=>exact t_one _
      case d7=>unfold maxLen;omega
      case d8=>omega
      intro v3 w8 hown hgrow hne
      have HO8:Hid (w8.ownsRow w.heap.size 9 1 v3 (ts.take q++t::ts.drop q).length (cellsAll tcells (ts.take q++t::ts.drop q))):=H_ (by
       rw [ins_cells,ins_len _ _ _ (by have:=HL.out;omega),←HL.out,show len+1=q+1+(len-q) by omega]
       rw [List.append_assoc]
       exact hown)
      have HB8:Hid (Below w.heap.size w w8):=H_ (HB7.out.grown hgrow HB7.out.size (fun c hc=>(HO7.out.lt c hc).1))
      clear hown hgrow hne
      rw [←HI.out] at HO8
      obtain ⟨b',o',c',rfl,m1,m2,m3⟩:=own_some (z:=tz) t_len HO8.out (by rw [HI.out];simp)
      go_wp2_with fail
      go_ret
      exact ⟨b',o',c',rfl,⟨m1,own_lowT HO8.out HD.out⟩,m2,m3.1,.inr (by have:=m3.2;omega),HB8.out⟩
   ·have HQ2:Hid (∀j,j<q+1→lt (ts.getD j tz) t=true):=H_ (fun j hj=>by
     rcases Nat.lt_succ_iff_lt_or_eq.1 hj with h|rfl
     ·exact HQ.out j h
     ·exact hc)
    have hc1:=hc
    unfold lt at hc1
    generalize ts.getD q tz=Y at *
    clear hc
    go_wp2_with fail
    go_roundw
    case rel=>exact ⟨q+1,by omega,by go_num,by first|rfl|trivial,HQ2⟩
    case measure=>simp [intOf];omega
  ·have hlt2:¬(q:Int)<(len:Int):=by omega
   have hins:R=ts.take q++t::ts.drop q:=by
    have e:q=ts.length:=by have:=HL.out;omega
    rw [HEND.out (fun j hj=>HQ.out j (by omega)),e]
    simp
   have HI:=H_ hins
   have HE0:=H_ (own_empty w w.heap.size 9 1 (Nat.le_refl _))
   have hqc:(q:Int)≤(cap:Int):=by omega
   have hql:(q:Int)≤(len:Int):=by omega
   have HT1:=H_ (HT.out.below (al w (.cells #[] 9)))
   clear hins
   go_wp2_with (at_builtin;refine wpList_append_own _ rfl _ _ 23 rfl w.heap.size 9 i0 (.string ⟨#[]⟩) 1 16 Tryd.underlying23 hi hz0 hz1 hz2 rfl (by decide) _ _ _ rfl HE0.out ⟨b,off,none⟩ q cap (cellsAll tcells (ts.take q)) rfl ?l1 ?d1 ?d2 ?d3 ?d4 (by simp) ?_)
   case l1=>rw [cellsAll_len t_len,List.length_take];have:=HL.out;omega
   case d1=>exact fun j u hj=>by have h:=rws_sub (i:=0) (n:=q) t_len HT1.out j u (by simpa using hj);first|exact h|(rw [Addr.add_lit,Nat.zero_mul,Nat.add_zero] at h;exact h)
   case d2=>exact t_one _
   case d3=>unfold maxLen;omega
   case d4=>omega
   intro v1 w6 hown hgrow hne
   have HO6:Hid (w6.ownsRow w.heap.size 9 1 v1 q (cellsAll tcells (ts.take q))):=H_ (by first|exact hown|simpa using hown)
   have HB6:Hid (Below w.heap.size w w6):=H_ ((al w _).grown hgrow (by simp) (fun c hc=>by simp [Value.ownBlock] at hc;omega))
   clear hown hgrow hne HE0 HT1
   go_wp2_with (at_builtin;refine wpList_append_own _ rfl _ _ 23 rfl w.heap.size 9 i0 (.string ⟨#[]⟩) 1 16 Tryd.underlying23 hi hz0 hz1 hz2 rfl (by decide) _ _ _ rfl (HO6.out.alloc _) ⟨w6.heap.size,0,none⟩ 1 1 [.string t] rfl rfl ?d1 ?d2 ?d3 ?d4 (by have:=HB6.out.size;simp;omega) ?_)
   case d1=>exact one_cell _ _ _
   case d2=>exact one_one _
   case d3=>unfold maxLen;omega
   case d4=>omega
   intro v2 w7 hown hgrow hne
   have HO7:Hid (w7.ownsRow w.heap.size 9 1 v2 (q+1) (cellsAll tcells (ts.take q) ++ [.string t])):=H_ hown
   have HB7:Hid (Below w.heap.size w w7):=H_ ((HB6.out.trans ((al w6 _).mono HB6.out.size)).grown hgrow (by have:=HB6.out.size;simp;omega) (fun c hc=>(HO6.out.lt c hc).1))
   have HT7:=H_ (HT.out.below HB7.out)
   clear hown hgrow hne
   by_cases hcq:cap=q
   ·obtain rfl:q=len:=by omega
    have hcq2:=hcq.symm
    subst hcq2
    go_wp2_with (at_builtin;refine wpList_append_own _ rfl _ _ 23 rfl w.heap.size 9 i0 (.string ⟨#[]⟩) 1 16 Tryd.underlying23 hi hz0 hz1 hz2 rfl (by decide) _ _ _ rfl HO7.out ⟨b,off,none⟩ 0 0 [] rfl rfl (fun _ _ h=>by simp at h) (fun _ h=>by simp at h) (by unfold maxLen;omega) (by omega) HB7.out.size ?_)
    intro v3 w8 hown hgrow hne
    have HO8:Hid (w8.ownsRow w.heap.size 9 1 v3 (ts.take q++t::ts.drop q).length (cellsAll tcells (ts.take q++t::ts.drop q))):=H_ (by
     rw [ins_cells,ins_len _ _ _ (by have:=HL.out;omega),←HL.out,List.drop_of_length_le (by have:=HL.out;omega)]
     first|exact hown|simpa [cellsAll,tcells] using hown)
    have HB8:Hid (Below w.heap.size w w8):=H_ (HB7.out.grown hgrow HB7.out.size (fun c hc=>(HO7.out.lt c hc).1))
    clear hown hgrow hne
    rw [←HI.out] at HO8
    obtain ⟨b',o',c',rfl,m1,m2,m3⟩:=own_some (z:=tz) t_len HO8.out (by rw [HI.out];simp)
    go_wp2_with fail
    go_ret
    exact ⟨b',o',c',rfl,⟨m1,own_lowT HO8.out HD.out⟩,m2,m3.1,.inr (by have:=m3.2;omega),HB8.out⟩
   ·go_wp2_with (at_builtin;refine wpList_append_own _ rfl _ _ 23 rfl w.heap.size 9 i0 (.string ⟨#[]⟩) 1 16 Tryd.underlying23 hi hz0 hz1 hz2 rfl (by decide) _ _ _ rfl HO7.out ⟨b,off+q,none⟩ (len-q) (cap-q) (cellsAll tcells (ts.drop q)) rfl ?l1 ?d5 ?d6 ?d7 ?d8 HB7.out.size ?_)
    case l1=>rw [cellsAll_len t_len,List.length_drop];have:=HL.out;omega
    case d5=>exact fun j u hj=>by have:=rws_sub (i:=q) (n:=ts.length-q) t_len HT7.out j u (by rw [List.take_of_length_le (by simp)];exact hj);rw [Nat.mul_one] at this;exact this
    case d6=>exact t_one _
    case d7=>unfold maxLen;omega
    case d8=>omega
    intro v3 w8 hown hgrow hne
    have HO8:Hid (w8.ownsRow w.heap.size 9 1 v3 (ts.take q++t::ts.drop q).length (cellsAll tcells (ts.take q++t::ts.drop q))):=H_ (by
     rw [ins_cells,ins_len _ _ _ (by have:=HL.out;omega),←HL.out,show len+1=q+1+(len-q) by omega]
     rw [List.append_assoc]
     exact hown)
    have HB8:Hid (Below w.heap.size w w8):=H_ (HB7.out.grown hgrow HB7.out.size (fun c hc=>(HO7.out.lt c hc).1))
    clear hown hgrow hne
    rw [←HI.out] at HO8
    obtain ⟨b',o',c',rfl,m1,m2,m3⟩:=own_some (z:=tz) t_len HO8.out (by rw [HI.out];simp)
    go_wp2_with fail
    go_ret
    exact ⟨b',o',c',rfl,⟨m1,own_lowT HO8.out HD.out⟩,m2,m3.1,.inr (by have:=m3.2;omega),HB8.out⟩
end WinR
namespace WinR
open RowG (MadeG Rws)
open EvtR (Pt)
theorem Rws.keep {α:Type} {k:Nat} {cells:α→List Value} {z:α} {ao:Option Addr} {xs:List α} {w w':World} {g:Nat} (h:Rws k cells z ao xs w) (hg:w.grownBy w' (some g)) (hne:xs.length=0∨∀b off,ao=some ⟨b,off,none⟩→b≠g):Rws k cells z ao xs w' :=
 Rws.grown h hg (hne.imp id (fun q b off e hb=>q b off e (by simpa using hb)))
theorem gtr {w w1 w2:World} {g:Option Nat} (h1:w.grownBy w1 g) (h2:w1.grownBy w2 g):w.grownBy w2 g :=
 ⟨h2.os.trans h1.os,h2.tape.trans h1.tape,h2.output.trans h1.output,Nat.le_trans h1.size h2.size,fun k hk hne=>(h2.block k (by have:=h1.size;omega) hne).trans (h1.block k hk hne)⟩
def JX (W0:World) (bA bB bR:Nat) (a1 m1:ByteArray) (mo1 ev1 su1 mx1:Int) (ta1:Option Addr) (tl1 tc1:Nat) (ha1:Option Addr) (hl1 hc1:Nat) (a2 m2:ByteArray) (mo2 ev2 su2 mx2:Int) (ta2:Option Addr) (tl2 tc2:Nat) (ha2:Option Addr) (hl2 hc2:Nat) (W:World):Prop:=Below W0.heap.size W0 W∧bA<W.heap.size∧bB<W.heap.size∧W.cell? ⟨bA,0,none⟩=some (.string a1)∧W.cell? ⟨bA,1,none⟩=some (.string m1)∧W.cell? ⟨bA,2,none⟩=some (.int .i64 mo1)∧W.cell? ⟨bA,3,none⟩=some (.int .i64 ev1)∧W.cell? ⟨bA,4,none⟩=some (.int .i64 su1)∧W.cell? ⟨bA,5,none⟩=some (.int .i64 mx1)∧W.cell? ⟨bA,6,none⟩=some (.slice ta1 tl1 tc1)∧W.cell? ⟨bA,7,none⟩=some (.slice ha1 hl1 hc1)∧W.cell? ⟨bB,0,none⟩=some (.string a2)∧W.cell? ⟨bB,1,none⟩=some (.string m2)∧W.cell? ⟨bB,2,none⟩=some (.int .i64 mo2)∧W.cell? ⟨bB,3,none⟩=some (.int .i64 ev2)∧W.cell? ⟨bB,4,none⟩=some (.int .i64 su2)∧W.cell? ⟨bB,5,none⟩=some (.int .i64 mx2)∧W.cell? ⟨bB,6,none⟩=some (.slice ta2 tl2 tc2)∧W.cell? ⟨bB,7,none⟩=some (.slice ha2 hl2 hc2)∧Pt (bR) 9 W
theorem JX.below {W0:World} {bA bB bR:Nat} {a1 m1:ByteArray} {mo1 ev1 su1 mx1:Int} {ta1:Option Addr} {tl1 tc1:Nat} {ha1:Option Addr} {hl1 hc1:Nat} {a2 m2:ByteArray} {mo2 ev2 su2 mx2:Int} {ta2:Option Addr} {tl2 tc2:Nat} {ha2:Option Addr} {hl2 hc2:Nat} {W W':World} (h:JX W0 bA bB bR a1 m1 mo1 ev1 su1 mx1 ta1 tl1 tc1 ha1 hl1 hc1 a2 m2 mo2 ev2 su2 mx2 ta2 tl2 tc2 ha2 hl2 hc2 W) (hb:Below W.heap.size W W'):JX W0 bA bB bR a1 m1 mo1 ev1 su1 mx1 ta1 tl1 tc1 ha1 hl1 hc1 a2 m2 mo2 ev2 su2 mx2 ta2 tl2 tc2 ha2 hl2 hc2 W':=by
 obtain ⟨h0,h1,h2,c0,c1,c2,c3,c4,c5,c6,c7,d0,d1,d2,d3,d4,d5,d6,d7,hp⟩:=h
 have c:=fun o=>hb.cell (p:=⟨bA,o,none⟩) h1
 have d:=fun o=>hb.cell (p:=⟨bB,o,none⟩) h2
 have:=hb.size
 exact ⟨h0.trans (hb.mono h0.size),by omega,by omega,(c 0).trans c0,(c 1).trans c1,(c 2).trans c2,(c 3).trans c3,(c 4).trans c4,(c 5).trans c5,(c 6).trans c6,(c 7).trans c7,(d 0).trans d0,(d 1).trans d1,(d 2).trans d2,(d 3).trans d3,(d 4).trans d4,(d 5).trans d5,(d 6).trans d6,(d 7).trans d7,hp.below hb⟩
theorem JX.grown {W0:World} {bA bB bR:Nat} {a1 m1:ByteArray} {mo1 ev1 su1 mx1:Int} {ta1:Option Addr} {tl1 tc1:Nat} {ha1:Option Addr} {hl1 hc1:Nat} {a2 m2:ByteArray} {mo2 ev2 su2 mx2:Int} {ta2:Option Addr} {tl2 tc2:Nat} {ha2:Option Addr} {hl2 hc2:Nat} {W W':World} {g:Nat} (h:JX W0 bA bB bR a1 m1 mo1 ev1 su1 mx1 ta1 tl1 tc1 ha1 hl1 hc1 a2 m2 mo2 ev2 su2 mx2 ta2 tl2 tc2 ha2 hl2 hc2 W) (hq:W0.heap.size≤g) (hA:bA<W0.heap.size) (hB:bB<W0.heap.size) (hR:bR<W0.heap.size) (hg:W.grownBy W' (some g)):JX W0 bA bB bR a1 m1 mo1 ev1 su1 mx1 ta1 tl1 tc1 ha1 hl1 hc1 a2 m2 mo2 ev2 su2 mx2 ta2 tl2 tc2 ha2 hl2 hc2 W':=by
 obtain ⟨h0,h1,h2,c0,c1,c2,c3,c4,c5,c6,c7,d0,d1,d2,d3,d4,d5,d6,d7,hp⟩:=h
 have c:=fun o=>World.cell?_of_block (a:=⟨bA,o,none⟩) (hg.block bA h1 (by simp;omega))
 have d:=fun o=>World.cell?_of_block (a:=⟨bB,o,none⟩) (hg.block bB h2 (by simp;omega))
 have hs:=hg.size
 exact ⟨h0.grown hg h0.size (fun k e=>by cases e;exact hq),by omega,by omega,(c 0).trans c0,(c 1).trans c1,(c 2).trans c2,(c 3).trans c3,(c 4).trans c4,(c 5).trans c5,(c 6).trans c6,(c 7).trans c7,(d 0).trans d0,(d 1).trans d1,(d 2).trans d2,(d 3).trans d3,(d 4).trans d4,(d 5).trans d5,(d 6).trans d6,(d 7).trans d7,StR.pt_far hp hg (by omega)⟩
theorem JX.drew {W0:World} {bA bB bR:Nat} {a1 m1:ByteArray} {mo1 ev1 su1 mx1:Int} {ta1:Option Addr} {tl1 tc1:Nat} {ha1:Option Addr} {hl1 hc1:Nat} {a2 m2:ByteArray} {mo2 ev2 su2 mx2:Int} {ta2:Option Addr} {tl2 tc2:Nat} {ha2:Option Addr} {hl2 hc2:Nat} {W:World} (h:JX W0 bA bB bR a1 m1 mo1 ev1 su1 mx1 ta1 tl1 tc1 ha1 hl1 hc1 a2 m2 mo2 ev2 su2 mx2 ta2 tl2 tc2 ha2 hl2 hc2 W):JX W0 bA bB bR a1 m1 mo1 ev1 su1 mx1 ta1 tl1 tc1 ha1 hl1 hc1 a2 m2 mo2 ev2 su2 mx2 ta2 tl2 tc2 ha2 hl2 hc2 W.drew:=by
 obtain ⟨h0,h1,h2,c0,c1,c2,c3,c4,c5,c6,c7,d0,d1,d2,d3,d4,d5,d6,d7,hp⟩:=h
 exact ⟨h0.drew,h1,h2,c0,c1,c2,c3,c4,c5,c6,c7,d0,d1,d2,d3,d4,d5,d6,d7,⟨hp.lt,hp.has,hp.free⟩⟩
theorem JX.pt {W0:World} {bA bB bR:Nat} {a1 m1:ByteArray} {mo1 ev1 su1 mx1:Int} {ta1:Option Addr} {tl1 tc1:Nat} {ha1:Option Addr} {hl1 hc1:Nat} {a2 m2:ByteArray} {mo2 ev2 su2 mx2:Int} {ta2:Option Addr} {tl2 tc2:Nat} {ha2:Option Addr} {hl2 hc2:Nat} {W:World} (h:JX W0 bA bB bR a1 m1 mo1 ev1 su1 mx1 ta1 tl1 tc1 ha1 hl1 hc1 a2 m2 mo2 ev2 su2 mx2 ta2 tl2 tc2 ha2 hl2 hc2 W):Pt bR 9 W:=by
 obtain ⟨h0,h1,h2,c0,c1,c2,c3,c4,c5,c6,c7,d0,d1,d2,d3,d4,d5,d6,d7,hp⟩:=h
 exact hp
theorem smax (x y:Int) (w:World):Calls Tryd.prog 47 #[.int .i64 x,.int .i64 y] w fun e w'=>e=.returned (.int .i64 (max x y))∧w'=w:=by
 by_cases h:y<x
 ·rw [show max x y=x by omega]
  go_enter Tryd.func47,Tryd.ntmps47
  go_wp2
  go_ret
  exact ⟨rfl,rfl⟩
 ·rw [show max x y=y by omega]
  go_enter Tryd.func47,Tryd.ntmps47
  go_wp2
  go_ret
  exact ⟨rfl,rfl⟩
end WinR
end Go.Proofs.YteejpnkmnmoebaaDoor
