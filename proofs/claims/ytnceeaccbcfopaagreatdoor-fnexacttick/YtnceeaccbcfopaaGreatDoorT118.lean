/-
  The model's and the program's Less: both hand back the same lines. The conditions: what right lines are.
-/
import Derived.Test.YtnceeaccbcfopaaGreatDoorT117
namespace Go.Proofs.YtnceeaccbcfopaaGreatDoor
open Go.ChangeShapes Go.WideShapes Go.ChangeAt Go.RowKit
set_option linter.unusedVariables false
namespace NetR
open LinR RowG LtR
def clL (L:List N):List N:=bif ovB L then L.filter nz else []
theorem all_take {L:List N} {k:Nat} (h:k<L.length):(L.take (k+1)).all (fun y=>nOk y.n)=((L.take k).all (fun y=>nOk y.n)&&nOk (L.getD k N.zero).n):=by
 rw [take_more (z:=N.zero) L k h,List.all_append]
 simp
set_option maxRecDepth 100000 in
set_option maxHeartbeats 4000000 in
theorem sclean (ao:Option Addr) (cap:Nat) (L:List N) (w:World) (hlen:L.length≤1048575) (hI:Lis ao L w) :
 Calls Tryz.prog 108 #[.slice ao L.length cap] w fun e w'=>∃v,e=.returned (.tuple #[v,.bool (ovB L)])∧OwnN w' w.heap.size v (clL L)∧Below w.heap.size w w':=by
 obtain ⟨i0,hi,hz0,hz1,hz2⟩:=info_parts infoN
 have HI:=H_ hI
 obtain ⟨len,hl⟩:∃len,len=L.length:=⟨_,rfl⟩
 rw [←hl] at hlen ⊢
 have HL:=H_ hl
 have HSN:=H_ (fun n w=>snum n w)
 have HE:=H_ (own_empty w w.heap.size 209 2 (Nat.le_refl _))
 clear hI hl
 go_enter Tryz.func108,Tryz.ntmps108
 go_wp2_with fail
 go_loopw [4,5] (fun v z wr=>∃k:Nat,k≤len∧z=.int .i64 k∧Hid (OwnN wr w.heap.size v ((L.take k).filter nz))∧Hid ((L.take k).all (fun y=>nOk y.n)=true)∧Hid (Below w.heap.size w wr)) (fun v z _=>len-(intOf z).toNat)
 case atStart=>exact ⟨0,by omega,rfl,H_ ⟨HE.out,fun e=>by cases e⟩,H_ rfl,H_ (al _ _)⟩
 case round =>
  obtain ⟨k,hk,rfl,HO,HA,HB⟩:=hrel
  by_cases hlt:k<len
  ·have hlt2:(k:Int)<(len:Int):=by omega
   have hkl:k<L.length:=by have:=HL.out;omega
   obtain ⟨b,off,rfl,hbl,c0,c1⟩:=(HI.out.below HB.out).at k hkl
   have HF:=H_ (filter_more nz L k hkl)
   have HA2:=H_ (all_take hkl)
   have HLF:Hid (((L.take k).filter nz).length≤1048575):=H_ (by
    have h1:=List.length_filter_le nz (L.take k)
    have h2:=(List.take_sublist k L).length_le
    have:=HL.out
    omega)
   have HMEM:=H_ (getD_mem (z:=N.zero) L k hkl)
   obtain ⟨F,hF⟩:∃F,F=(L.take k).filter nz:=⟨_,rfl⟩
   rw [←hF] at HO HF HLF
   clear hF
   generalize L.getD k N.zero=X at *
   obtain ⟨xi,xn⟩:=X
   dsimp only at c0 c1 HA2
   have HC:=H_ (fun w=>snum xn w)
   have HOV:Hid (nOk xn=false→ovB L=false):=H_ (fun h=>ov_false HMEM.out h)
   generalize nOk xn=r at *
   cases r
   ·have HE2:=H_ (HOV.out rfl)
    have HBz:=H_ (HB.out.alloc HB.out.size (.cells #[] 209))
    have HOz:=H_ (own_empty wr w.heap.size 209 2 HB.out.size)
    have HPz:Hid (∀W,W.ownsRow w.heap.size 209 2 (.slice (some ⟨wr.heap.size,0,none⟩) 0 0) 0 []→OwnN W w.heap.size (.slice (some ⟨wr.heap.size,0,none⟩) 0 0) (clL L)):=H_ (fun W h=>by
     unfold clL
     rw [HE2.out,cond_false]
     exact ⟨h,fun e=>by cases e⟩)
    go_wp2_with (go_at_call 153;refine (HC.out _).mono ?_;rintro e w2 ⟨rfl,rfl⟩)
    go_ret2
    exact ⟨_,by rw [HE2.out];rfl,HPz.out _ HOz.out,HBz.out⟩
   ·have HA3:Hid ((L.take (k+1)).all (fun y=>nOk y.n)=true):=H_ (by rw [HA2.out,HA.out];rfl)
    rcases nz_cases xi xn with ⟨q1,q2,q3⟩|⟨q1,q2,q3⟩
    ·rw [q3,cond_false,List.append_nil] at HF
     go_wp2_with (go_at_call 153;refine (HC.out _).mono ?_;rintro e w2 ⟨rfl,rfl⟩)
     go_roundw
     case rel=>exact ⟨k+1,by omega,by go_num,H_ (by rw [HF.out];exact HO.out),HA3,HB⟩
     case measure=>simp [intOf];omega
    ·rw [q3,cond_true] at HF
     go_wp2_with (first|(go_at_call 153;refine (HC.out _).mono ?_;rintro e w2 ⟨rfl,rfl⟩)|(at_builtin;refine wpList_append_own _ rfl _ _ 120 rfl w.heap.size 209 i0 (.agg #[.string ⟨#[]⟩,.int .i64 0]) 2 24 Tryz.underlying120 hi hz0 hz1 hz2 rfl (by decide) _ _ _ rfl (HO.out.1.alloc _) ⟨_,0,none⟩ 1 1 (N.cells ⟨xi,xn⟩) rfl rfl (two_cells _ _ _ _) (two_one _) ?d3 ?d4 ?d5 ?_))
     case d3=>unfold maxLen;have:=HLF.out;omega
     case d4=>have:=HLF.out;omega
     case d5=>have h1:=HB.out.size;simp;omega
     intro v' w4 hown hgrow hne
     have HO4:Hid (OwnN w4 w.heap.size v' (F ++ [(⟨xi,xn⟩:N)])):=H_ (own_nonnil (by rw [cellsAll_app,List.length_append];exact hown) (by simp))
     have HOB:=H_ (fun c hc=>(HO.out.1.lt c hc).1)
     have HB4:Hid (Below w.heap.size w w4):=H_ ((HB.out.alloc HB.out.size _).grown hgrow (HB.out.alloc HB.out.size _).size (fun c e=>HOB.out c e))
     clear hown hgrow hne
     go_wp2_with fail
     go_roundw
     case rel=>exact ⟨k+1,by omega,by go_num,H_ (by rw [HF.out];exact HO4.out),HA3,HB4⟩
     case measure=>simp [intOf];omega
  ·have hlt2:¬(k:Int)<(len:Int):=by omega
   obtain rfl:k=len:=by omega
   have HT:Hid (L.take k=L):=H_ (List.take_of_length_le (by have:=HL.out;omega))
   rw [HT.out] at HO HA
   have HE2:Hid (ovB L=true):=HA
   have HP:Hid (∀W v,OwnN W w.heap.size v (L.filter nz)→OwnN W w.heap.size v (clL L)):=H_ (fun W v h=>by unfold clL;rw [HE2.out,cond_true];exact h)
   go_wp2_with fail
   go_ret2
   exact ⟨_,by rw [HE2.out];rfl,HP.out _ _ HO.out,HB.out⟩
theorem right_bd {es:List N} (h:SRight es):∀e∈es,-1000000000000000≤e.n∧e.n≤1000000000000000:=by
 intro e he
 obtain ⟨i,hi,rfl⟩:=List.getElem_of_mem he
 have h1:=(h.2 i hi).2
 unfold lOk nOk at h1
 simp only [Bool.and_eq_true,decide_eq_true_eq] at h1
 have e2:es.getD i N.zero=es[i]:=by simp [List.getD,hi]
 rw [e2] at h1
 exact h1.2.1
end NetR
end Go.Proofs.YtnceeaccbcfopaaGreatDoor
