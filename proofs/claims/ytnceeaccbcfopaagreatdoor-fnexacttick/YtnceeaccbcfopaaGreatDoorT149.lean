/-
  An engine is right: spec.EngineRight and impl.EngineRight say the same. The conditions: sizes of at most 1048576; the program's variables hold what its text lays.
-/
import Derived.Test.YtnceeaccbcfopaaGreatDoorT148
namespace Go.Proofs.YtnceeaccbcfopaaGreatDoor
open Go.ChangeShapes Go.WideShapes Go.ChangeAt Go.RowKit
set_option linter.unusedVariables false
namespace EngR
open CatR
theorem at_first (ms:List Me) (t:ByteArray) (n:Nat):(∃k,k<n∧mN ms k=t∧∀i,i<k→mN ms i≠t)∨(∀i,i<n→mN ms i≠t):=by
 induction n with
 | zero=>exact .inr (fun i h=>absurd h (by omega))
 | succ n ih =>
  rcases ih with ⟨k,hk,h1,h2⟩|h
  ·exact .inl ⟨k,by omega,h1,h2⟩
  ·by_cases e:mN ms n=t
   ·exact .inl ⟨n,by omega,e,h⟩
   ·refine .inr (fun i hi=>?_)
    by_cases q:i=n
    ·subst q;exact e
    ·exact h i (by omega)
theorem at_ex (ms:List Me) (t:ByteArray):∃r,atB ms t r:=by
 rcases at_first ms t ms.length with ⟨k,hk,h1,h2⟩|h
 ·exact ⟨k,.inl ⟨k,hk,rfl,h1,h2⟩⟩
 ·exact ⟨-1,.inr ⟨rfl,h⟩⟩
theorem at_one {ms:List Me} {t:ByteArray} {r r':Int} (h:atB ms t r) (h':atB ms t r'):r=r':=by
 rcases h with ⟨k,hk,rfl,h1,h2⟩|⟨rfl,h⟩<;>rcases h' with ⟨k',hk',rfl,h1',h2'⟩|⟨rfl,h'⟩
 ·have a:=fun q=>h2 k' q h1'
  have b:=fun q=>h2' k q h1
  rcases Nat.lt_trichotomy k k' with q|q|q
  ·exact (b q).elim
  ·rw [q]
  ·exact (a q).elim
 ·exact absurd h1 (h' k hk)
 ·exact absurd h1' (h k' hk')
 ·rfl
theorem spec_eng (val:Value) (x:Eng) (v:Int) (w:World) (hS:x.Small) (hE:IsEng val x w)
 (hv:0≤x.fr→x.fr≤2760→∀W,Below w.heap.size w W→Calls Tryz.prog 59 #[.int .i64 x.fr] W fun e w'=>e=.returned (.int .i64 v)∧Below W.heap.size W w') :
 Calls Tryz.prog 19 #[val] w fun e w'=>e=.returned (.bool (engB x v))∧Below w.heap.size w w':=by
 obtain ⟨ma,mc,ca,cc,sa,sc,ea,ec,ua,uc,da,dc,rfl,q1,q2,q3,q4,q5,q6⟩:=hE
 refine (seright_in ma _ mc ca _ cc sa _ sc ea ec ua uc da _ dc x.fr v x.c.ms x.es x.ws (caB x.c) (SeenR.sB x.es) (LedR.lB x.ds) (srcB x.ss) (decide (0≤x.fr∧x.fr≤2760)) w q4 hS.el q5 hS.wl ?_ ?_ ?_ ?_ ?_ ?_ ?_ ?_).mono ?_
 ·intro W hW
  exact CatR.spec_ca _ x.c W hS.c ⟨ma,mc,ca,cc,rfl,q1.below hW,q2.below hW⟩
 ·intro W hW
  exact SeenR.spec_seen ea ec x.es W hS.el hS.es (q4.below hW)
 ·intro W hW
  exact LedR.spec_ledger da dc x.ds W hS.dl hS.ds (q6.below hW)
 ·intro W hW
  exact spec_srcsA sa sc x.ss W hS.sl hS.ss (q3.below hW)
 ·intro W
  exact WinR.sisMonth_any x.fr W
 ·intro k hk ta tc ha hc W hW hT hH
  have hk':=hS.ws k hk
  exact WinR.spec_window_right _ ta tc ha hc W hk'.1 hk'.2.1 hk'.2.2.1 hk'.2.2.2.1 hT hH
 ·intro t
  obtain ⟨r,hr⟩:=at_ex x.c.ms t
  refine ⟨r,at_sell hr,fun W hW=>(spec_at ma mc ca _ cc x.c.ms t W hS.c.ml (q1.below hW)).mono ?_⟩
  rintro e w' ⟨r',rfl,hr',hb⟩
  exact ⟨by rw [at_one hr' hr],hb⟩
 ·intro h W hW
  have h4:=of_decide_eq_true h
  exact hv h4.1 h4.2 W hW
 ·rintro e w' ⟨rfl,hb⟩
  refine ⟨?_,hb⟩
  unfold engB
  generalize caB x.c=a1
  generalize SeenR.sB x.es=a2
  generalize LedR.lB x.ds=a3
  generalize srcB x.ss=a4
  generalize decide (0≤x.fr∧x.fr≤2760)=a5
  generalize winB x.ws x.c.ms x.fr=a6
  generalize goneB x.es v=a7
  cases a1<;>cases a2<;>cases a3<;>cases a4<;>cases a5<;>cases a6<;>cases a7<;>rfl
theorem start_num (m:Int):∃v:Int,(0≤m→m≤2760→∀w,DateR.Laid w→Calls Tryz.prog 125 #[.int .i64 m] w fun e w'=>e=.returned (.int .i64 v)∧Below w.heap.size w w')∧(0≤m→m≤2760→∀w,Calls Tryz.prog 59 #[.int .i64 m] w fun e w'=>e=.returned (.int .i64 v)∧Below w.heap.size w w'):=by
 by_cases h:0≤m∧m≤2760
 ·obtain ⟨v,h1,h2⟩:=DateR.start_eng m h.1 h.2
  exact ⟨v,fun _ _=>h1,fun _ _=>h2⟩
 ·exact ⟨0,fun a b=>absurd ⟨a,b⟩ h,fun a b=>absurd ⟨a,b⟩ h⟩
end EngR
end Go.Proofs.YtnceeaccbcfopaaGreatDoor
