/-
  The law's own mark, a text. The condition: its number is 1 to 99999999.
-/
import Derived.Lib.ConvBytes
import Derived.Laws.BytesArg
import Derived.Test.YtnceeaccbcfopaaGreatDoorT4
namespace Go.Proofs.YtnceeaccbcfopaaGreatDoor
open Go.ChangeShapes Go.WideShapes Go.ChangeAt Go.RowKit
set_option linter.unusedVariables false
namespace MarkR
theorem H_ {p:Prop} (h:p):Hid p:=h
theorem conv_m (w:World) (z:Int):(convert 205 9 (.slice (some ⟨w.heap.size,0,none⟩) 1 1)).run Tryz.prog (w.alloc (Obj.cells #[.int .u8 z] 5))=.ok (.string (strOfNums [z])) (w.alloc (Obj.cells #[.int .u8 z] 5)):=by
 refine run_convert_bytes_arg _ 205 5 Tryz.underlying205 Tryz.underlying5 w.heap.size 0 1 1 _ rfl ?_ 9 Tryz.underlying9
 intro i hi
 match i,hi with
 | 0,_=>simp [go_sem]
def mk:Nat→Nat→ByteArray→ByteArray
 | 0,_,out=>out
 | f+1,k,out=>if k=0 then out else mk f (k / 10) (strOfNums [48+((k % 10:Nat):Int)]++out)
def mT (k:Nat):ByteArray:=(⟨#[109]⟩:ByteArray)++mk 9 k ⟨#[]⟩
set_option maxRecDepth 100000 in
set_option maxHeartbeats 4000000 in
theorem mark_any (K:Nat) (h0:1≤K) (h:K<100000000) (w:World):Calls Tryz.prog 89 #[.int .i64 K] w fun e w'=>e=.returned (.string (mT K))∧Below w.heap.size w w':=by
 have h1:¬(K:Int)≤0:=by omega
 have HT:Hid (mT K=(⟨#[109]⟩:ByteArray)++mk 9 K ⟨#[]⟩):=rfl
 generalize mT K=R at *
 go_enter Tryz.func89,Tryz.ntmps89
 go_wp2_with fail
 go_loopw [0,3] (fun x z wr=>∃(f k:Nat) (out:ByteArray),x=.int .i64 (k:Int)∧z=.string out∧k<10 ^ f∧f≤9∧Hid (mk 9 K ⟨#[]⟩=mk f k out)∧out.size+f=9∧Hid (Below w.heap.size w wr)) (fun x _ _=>(intOf x).toNat)
 case atStart=>exact ⟨9,K,⟨#[]⟩,rfl,rfl,by omega,by omega,rfl,rfl,H_ (Below.refl _ _)⟩
 case round =>
  obtain ⟨f,k,out,rfl,rfl,hk,hf,HD,hz,HB⟩:=hrel
  by_cases hk0:k=0
  ·subst hk0
   have HO:Hid (R=(⟨#[109]⟩:ByteArray)++out):=H_ (by rw [HT.out,HD.out];cases f<;>simp [mk])
   have q1:¬9223372036854775807<1+out.size:=by omega
   go_wp2_with fail
   go_ret
   exact ⟨ret_str HO.out.symm,HB.out⟩
  ·obtain ⟨g,rfl⟩:∃g,f=g+1:=⟨f-1,by rcases f with _|f;simp at hk;omega;omega⟩
   have hk2:k / 10<10 ^ g:=by rw [Nat.pow_succ] at hk;omega
   have HD2:Hid (mk 9 K ⟨#[]⟩=mk g (k / 10) (strOfNums [48+((k % 10:Nat):Int)]++out)):=H_ (by rw [HD.out,mk,if_neg hk0])
   have hkb:k<1000000000:=by
    have:10 ^ (g+1)≤10 ^ 9:=Nat.pow_le_pow_right (by omega) hf
    omega
   have k1:(0:Int)<(k:Int):=by omega
   have e1:(k:Int) % 10=((k % 10:Nat):Int):=by omega
   have e2:(k:Int) / 10=((k / 10:Nat):Int):=by omega
   have e3:(k:Int).tmod 10=((k % 10:Nat):Int):=by rw [Int.tmod_eq_emod_of_nonneg (by omega)];omega
   have e4:(k:Int).tdiv 10=((k / 10:Nat):Int):=by rw [Int.tdiv_eq_ediv_of_nonneg (by omega)];omega
   have d10:k % 10<10:=by omega
   have dk:k / 10<k:=by omega
   have hC:(strOfNums [48+((k % 10:Nat):Int)]).size=1:=strOfNums_size _
   have hcv:=conv_m wr (48+((k % 10:Nat):Int))
   generalize k % 10=d at *
   generalize k / 10=q at *
   generalize strOfNums [48+(d:Int)]=T at *
   have q1:¬9223372036854775807<T.size+out.size:=by omega
   have HDk:=H_ dk
   clear dk hk HD
   go_wp2_with fail
   go_roundw
   case rel=>exact ⟨g,q,T++out,rfl,rfl,hk2,by omega,HD2,by rw [ByteArray.size_append];omega,H_ (HB.out.alloc HB.out.size _)⟩
   case measure=>simp [intOf];have:=HDk.out;omega
end MarkR
end Go.Proofs.YtnceeaccbcfopaaGreatDoor
