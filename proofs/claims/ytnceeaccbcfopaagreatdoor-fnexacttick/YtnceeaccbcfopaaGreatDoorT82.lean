/-
  A meter laid in new memory, the program's copyMeter. The conditions: 1 to 5 tiers, a name of at most 1048576 bytes.
-/
import Derived.Lib.SliceRun
import Derived.Test.YtnceeaccbcfopaaGreatDoorT81
namespace Go.Proofs.YtnceeaccbcfopaaGreatDoor
open Go.ChangeShapes Go.WideShapes Go.ChangeAt Go.RowKit
set_option linter.unusedVariables false
namespace CatR
open EvtR (Pt)
def Ti.cellz (t:Ti):List Value:=[.int .i64 t.u,.int .i64 t.p]
theorem Ti.lenz (t:Ti):t.cellz.length=2:=rfl
def tisC (ts:List Ti):List Value:=RowG.cellsAll Ti.cellz ts
theorem tisC_len (ts:List Ti):(tisC ts).length=ts.length*2:=RowG.cellsAll_len Ti.lenz ts
theorem tis_cells {b off:Nat} {ts:List Ti} {w:World} (h:Tis (some ⟨b,off,none⟩) ts.length ts w):∀j u,(tisC ts)[j]? = some u→w.cell? ⟨b,off+j,none⟩=some u:=by
 intro j u hj
 have hlt:=(List.getElem?_eq_some_iff.1 hj).1
 rw [tisC_len] at hlt
 have e:j=(j / 2)*2+j % 2:=by omega
 have hi:j / 2<ts.length:=by omega
 unfold tisC at hj
 rw [e,RowG.cellsAll_get (z:=Ti.zero) Ti.lenz ts (j / 2) (j % 2) hi (by omega)] at hj
 rcases h.2 with h0|⟨b',off',he,_,hc⟩
 ·omega
 ·simp only [Option.some.injEq,Addr.mk.injEq,and_true] at he
  obtain ⟨rfl,rfl⟩:=he
  obtain ⟨c0,c1⟩:=hc (j / 2) hi
  rcases (show j % 2=0∨j % 2=1 by omega) with q|q
  ·rw [q] at hj
   rw [show off+j=off+(j / 2)*2 by omega,c0]
   simpa [Ti.cellz] using hj
  ·rw [q] at hj
   rw [show off+j=off+(j / 2)*2+1 by omega,c1]
   simpa [Ti.cellz] using hj
theorem tisC_one (ts:List Ti):∀v∈tisC ts,v.oneCell'=true:=by
 intro v hv
 simp only [tisC,RowG.cellsAll,List.mem_flatMap,Ti.cellz,List.mem_cons,List.not_mem_nil,or_false] at hv
 obtain ⟨x,_,rfl|rfl⟩:=hv<;>rfl
theorem own_tisz {w:World} {base:Nat} {v:Value} {ts:List Ti} (h:w.ownsRow base 248 2 v ts.length (tisC ts)):∃ao cap,v=.slice ao ts.length cap∧Tis ao ts.length ts w∧(ts.length=0∨∃g,ao=some ⟨g,0,none⟩∧base≤g∧Pt g (ts.length*2) w):=by
 obtain ⟨ao,cap,hv,hm⟩:=RowG.own_made (z:=Ti.zero) Ti.lenz h
 refine ⟨ao,cap,hv,⟨rfl,?_⟩,hm.own⟩
 rcases hm.rws with h0|⟨b,off,e,hl,hc⟩
 ·exact .inl h0
 ·exact .inr ⟨b,off,e,hl,fun j hj=>⟨hc j hj 0 (by omega),hc j hj 1 (by omega)⟩⟩
set_option maxRecDepth 100000 in
set_option maxHeartbeats 4000000 in
theorem clone_tis (b off cap:Nat) (ts:List Ti) (w:World) (h1:1≤ts.length) (h5:ts.length≤5) (hI:Tis (some ⟨b,off,none⟩) ts.length ts w) :
 Calls Tryz.prog 181 #[.slice (some ⟨b,off,none⟩) ts.length cap] w fun e w'=>∃v,e=.returned v∧w'.ownsRow w.heap.size 248 2 v ts.length (tisC ts)∧Below w.heap.size w w':=by
 obtain ⟨i0,hi,hz0,hz1,hz2⟩:=info_parts infoT
 have HC:=H_ (tis_cells hI)
 have HL:=H_ (tisC_len ts)
 have H1:=H_ (tisC_one ts)
 generalize tisC ts=C at *
 generalize ts.length=len at *
 clear hI
 have hnil:=fun W=>Lib.run_eql_slice_nil (P:=Tryz.prog) W 148 248 (some ⟨b,off,none⟩) len cap 0 0 Tryz.underlying148
 have HE0:Hid ((w.alloc (.cells #[] 248)).ownsRow w.heap.size 248 2 (.slice (some ⟨w.heap.size,0,none⟩) 0 0) 0 []):=H_ (World.ownsRow_made w #[] 0 (Nat.le_refl _) (by unfold maxLen;omega) (by simp))
 have HN:Hid (∀j u,C[j]? = some u→(w.alloc (.cells #[] 248)).cell? ((⟨b,off,none⟩:Addr).add j)=some u):=H_ (fun j u hj=>by
  have h:=HC.out j u hj
  rw [Addr.add_lit]
  exact (((Below.refl w.heap.size w).alloc (Nat.le_refl _) _).cell (p:=⟨b,off+j,none⟩) (World.block_lt_of_cell? w ⟨b,off+j,none⟩ h)).trans h)
 go_enter Tryz.func181,Tryz.ntmps181
 go_wp2_with (at_builtin;refine wpList_append_own _ rfl _ _ 148 rfl w.heap.size 248 i0 (.agg #[.int .i64 0,.int .i64 0]) 2 16 Tryz.underlying148 hi hz0 hz1 hz2 rfl (by decide) _ _ _ rfl HE0.out ⟨b,off,none⟩ len cap C rfl HL.out HN.out H1.out (by unfold maxLen;omega) (by omega) (by simp) ?_)
 intro v1 w1 hown hgrow hne
 have HO:Hid (w1.ownsRow w.heap.size 248 2 v1 len C):=H_ (by first|exact hown|simpa using hown)
 have HB:Hid (Below w.heap.size w w1):=H_ (((Below.refl _ _).alloc (Nat.le_refl _) _).grown hgrow (by simp) (fun k e=>by simp [Value.ownBlock] at e;omega))
 clear hown hgrow hne
 go_wp2_with fail
 go_ret
 exact ⟨_,rfl,HO.out,HB.out⟩
theorem pt_new (w:World) (cs:List Value) (T:TypeId):Pt w.heap.size cs.length (w.alloc (.cells cs.toArray T)):=pt_row (heap_alloc_new w _) rfl
end CatR
end Go.Proofs.YtnceeaccbcfopaaGreatDoor
