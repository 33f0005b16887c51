/-
  What the model calls a right window. The conditions: texts of at most 1048576 bytes, at most 1048576 tags.
  Lists put into the order of a text of theirs, each in its place: one rising list of the same elements alone. No condition.
  What a window comes to as a number, on both sides. The conditions: texts of at most 1048576 bytes, lists of at most 1048576; the program's table stands in its variable.
  FnExactClamp: for every number and bounds the law's call returns true (the program's Clamp hands back what the model's does), and the input reads as it did. No condition.
  What a right meter costs, in numbers. No condition.
-/
import Derived.Test.YtmalfhhkjdkadaaGreatDoorN15
namespace Go.Proofs.YtmalfhhkjdkadaaGreatDoor
open Go.ChangeShapes Go.WideShapes Go.ChangeAt Go.RowKit
set_option linter.unusedVariables false
namespace WinR
open RowG LtR
open CatR (Blk Blk.new)
theorem six (b1 b2 b3 b4 b5 b6:Bool):(b1=false)∨(b1=true∧b2=false)∨(b1=true∧b2=true∧b3=false)∨(b1=true∧b2=true∧b3=true∧b4=false)∨(b1=true∧b2=true∧b3=true∧b4=true∧b5=false)∨(b1=true∧b2=true∧b3=true∧b4=true∧b5=true∧b6=false)∨(b1=true∧b2=true∧b3=true∧b4=true∧b5=true∧b6=true):=by
 cases b1<;>cases b2<;>cases b3<;>cases b4<;>cases b5<;>cases b6<;>simp
theorem sisMonth_any (n:Int) (w:World):Calls Tryz.prog 53 #[.int .i64 n] w fun e w'=>e=.returned (.bool (decide (0≤n∧n≤2760)))∧w'=w:=by
 have H:=EvtR.is_any n 0 2760
 generalize decide (0≤n∧n≤2760)=b at *
 go_enter Tryz.func53,Tryz.ntmps53
 go_wp2_with (go_at_call 95;refine (H _).mono ?_;rintro e w' ⟨rfl,rfl⟩)
 go_ret
 exact ⟨rfl,rfl⟩
set_option maxRecDepth 100000 in
set_option maxHeartbeats 8000000 in
theorem sright_in (a m:ByteArray) (mo ev su mx:Int) (ta:Option Addr) (tl tc:Nat) (ha:Option Addr) (hl hc:Nat) (b1 b2 b3 b4 b5 b6 b7 b8:Bool) (w:World)
 (h1:∀W,Calls Tryz.prog 20 #[.string a] W fun e w'=>e=.returned (.bool b1)∧w'=W) (h2:∀W,Calls Tryz.prog 20 #[.string m] W fun e w'=>e=.returned (.bool b2)∧w'=W) (h3:∀W,Calls Tryz.prog 53 #[.int .i64 mo] W fun e w'=>e=.returned (.bool b3)∧w'=W) (h4:∀W,Calls Tryz.prog 95 #[.int .i64 ev,.int .i64 1,.int .i64 1000] W fun e w'=>e=.returned (.bool b4)∧w'=W) (h5:∀W,Calls Tryz.prog 95 #[.int .i64 su,.int .i64 0,.int .i64 1000000000000] W fun e w'=>e=.returned (.bool b5)∧w'=W) (h6:∀W,Calls Tryz.prog 95 #[.int .i64 mx,.int .i64 0,.int .i64 su] W fun e w'=>e=.returned (.bool b6)∧w'=W)
 (h7:∀W,Below w.heap.size w W→Calls Tryz.prog 102 #[.slice ta tl tc] W fun e w'=>e=.returned (.bool b7)∧Below W.heap.size W w')
 (h8:b5=true→hl≤12→∀W,Below w.heap.size w W→Calls Tryz.prog 103 #[.slice ha hl hc,.int .i64 mo,.int .i64 su] W fun e w'=>e=.returned (.bool b8)∧Below W.heap.size W w') :
 Calls Tryz.prog 54 #[.agg #[.string a,.string m,.int .i64 mo,.int .i64 ev,.int .i64 su,.int .i64 mx,.slice ta tl tc,.slice ha hl hc]] w fun e w'=>e=.returned (.bool ((b1&&(b2&&b3))&&((b4&&(b5&&b6))&&(b7&&(decide (1≤hl∧hl≤12)&&b8)))))∧Below w.heap.size w w':=by
 have H1:=hid_intro h1
 have H2:=hid_intro h2
 have H3:=hid_intro h3
 have H4:=hid_intro h4
 have H5:=hid_intro h5
 have H6:=hid_intro h6
 have H7:=hid_intro h7
 have H8:=hid_intro h8
 clear h1 h2 h3 h4 h5 h6 h7 h8
 have HB0:Hid (Below w.heap.size w (w.alloc (.cells #[.string a,.string m,.int .i64 mo,.int .i64 ev,.int .i64 su,.int .i64 mx,.slice ta tl tc,.slice ha hl hc] 107))):=hid_intro ((Below.refl _ _).alloc (Nat.le_refl _) _)
 have HX0:=hid_intro (Blk.new w [.string a,.string m,.int .i64 mo,.int .i64 ev,.int .i64 su,.int .i64 mx,.slice ta tl tc,.slice ha hl hc] 107)
 rcases six b1 b2 b3 b4 b5 b6 with rfl|⟨rfl,rfl⟩|⟨rfl,rfl,rfl⟩|⟨rfl,rfl,rfl,rfl⟩|⟨rfl,rfl,rfl,rfl,rfl⟩|⟨rfl,rfl,rfl,rfl,rfl,rfl⟩|⟨rfl,rfl,rfl,rfl,rfl,rfl⟩
 ·go_enter Tryz.func54,Tryz.ntmps54
  go_wp2_with fail
  refine (H1.out _).mono ?_
  rintro e w1 ⟨rfl,rfl⟩
  go_wp2_with fail
  go_ret
  exact ⟨ret_bool (by simp),HB0.out⟩
 ·go_enter Tryz.func54,Tryz.ntmps54
  go_wp2_with fail
  refine (H1.out _).mono ?_
  rintro e w1 ⟨rfl,rfl⟩
  go_wp2_with fail
  refine (H2.out _).mono ?_
  rintro e w1 ⟨rfl,rfl⟩
  go_wp2_with fail
  go_ret
  exact ⟨ret_bool (by simp),HB0.out⟩
 ·go_enter Tryz.func54,Tryz.ntmps54
  go_wp2_with fail
  refine (H1.out _).mono ?_
  rintro e w1 ⟨rfl,rfl⟩
  go_wp2_with fail
  refine (H2.out _).mono ?_
  rintro e w1 ⟨rfl,rfl⟩
  go_wp2_with fail
  refine (H3.out _).mono ?_
  rintro e w1 ⟨rfl,rfl⟩
  go_wp2_with fail
  go_ret
  exact ⟨ret_bool (by simp),HB0.out⟩
 ·go_enter Tryz.func54,Tryz.ntmps54
  go_wp2_with fail
  refine (H1.out _).mono ?_
  rintro e w1 ⟨rfl,rfl⟩
  go_wp2_with fail
  refine (H2.out _).mono ?_
  rintro e w1 ⟨rfl,rfl⟩
  go_wp2_with fail
  refine (H3.out _).mono ?_
  rintro e w1 ⟨rfl,rfl⟩
  go_wp2_with fail
  refine (H4.out _).mono ?_
  rintro e w1 ⟨rfl,rfl⟩
  go_wp2_with fail
  go_ret
  exact ⟨ret_bool (by simp),HB0.out⟩
 ·go_enter Tryz.func54,Tryz.ntmps54
  go_wp2_with fail
  refine (H1.out _).mono ?_
  rintro e w1 ⟨rfl,rfl⟩
  go_wp2_with fail
  refine (H2.out _).mono ?_
  rintro e w1 ⟨rfl,rfl⟩
  go_wp2_with fail
  refine (H3.out _).mono ?_
  rintro e w1 ⟨rfl,rfl⟩
  go_wp2_with fail
  refine (H4.out _).mono ?_
  rintro e w1 ⟨rfl,rfl⟩
  go_wp2_with fail
  refine (H5.out _).mono ?_
  rintro e w1 ⟨rfl,rfl⟩
  go_wp2_with fail
  go_ret
  exact ⟨ret_bool (by simp),HB0.out⟩
 ·go_enter Tryz.func54,Tryz.ntmps54
  go_wp2_with fail
  refine (H1.out _).mono ?_
  rintro e w1 ⟨rfl,rfl⟩
  go_wp2_with fail
  refine (H2.out _).mono ?_
  rintro e w1 ⟨rfl,rfl⟩
  go_wp2_with fail
  refine (H3.out _).mono ?_
  rintro e w1 ⟨rfl,rfl⟩
  go_wp2_with fail
  refine (H4.out _).mono ?_
  rintro e w1 ⟨rfl,rfl⟩
  go_wp2_with fail
  refine (H5.out _).mono ?_
  rintro e w1 ⟨rfl,rfl⟩
  go_wp2_with fail
  refine (H6.out _).mono ?_
  rintro e w1 ⟨rfl,rfl⟩
  go_wp2_with fail
  go_ret
  exact ⟨ret_bool (by simp),HB0.out⟩
 ·cases b7
  ·go_enter Tryz.func54,Tryz.ntmps54
   go_wp2_with fail
   refine (H1.out _).mono ?_
   rintro e w1 ⟨rfl,rfl⟩
   go_wp2_with fail
   refine (H2.out _).mono ?_
   rintro e w1 ⟨rfl,rfl⟩
   go_wp2_with fail
   refine (H3.out _).mono ?_
   rintro e w1 ⟨rfl,rfl⟩
   go_wp2_with fail
   refine (H4.out _).mono ?_
   rintro e w1 ⟨rfl,rfl⟩
   go_wp2_with fail
   refine (H5.out _).mono ?_
   rintro e w1 ⟨rfl,rfl⟩
   go_wp2_with fail
   refine (H6.out _).mono ?_
   rintro e w1 ⟨rfl,rfl⟩
   go_wp2_with fail
   refine (H7.out _ HB0.out).mono ?_
   rintro e w2 ⟨rfl,hb2⟩
   have HB2:=hid_intro (HB0.out.trans (hb2.mono HB0.out.size))
   clear hb2 HX0
   go_wp2_with fail
   go_ret
   exact ⟨ret_bool (by simp),HB2.out⟩
  ·rcases (show (¬1≤hl)∨(1≤hl∧¬hl≤12)∨(1≤hl∧hl≤12) by omega) with q|⟨q,q2⟩|⟨q,q2⟩
   ·have q':¬(1:Int)≤(hl:Int):=by omega
    rw [decide_eq_false (show ¬(1≤hl∧hl≤12) by omega)]
    go_enter Tryz.func54,Tryz.ntmps54
    go_wp2_with fail
    refine (H1.out _).mono ?_
    rintro e w1 ⟨rfl,rfl⟩
    go_wp2_with fail
    refine (H2.out _).mono ?_
    rintro e w1 ⟨rfl,rfl⟩
    go_wp2_with fail
    refine (H3.out _).mono ?_
    rintro e w1 ⟨rfl,rfl⟩
    go_wp2_with fail
    refine (H4.out _).mono ?_
    rintro e w1 ⟨rfl,rfl⟩
    go_wp2_with fail
    refine (H5.out _).mono ?_
    rintro e w1 ⟨rfl,rfl⟩
    go_wp2_with fail
    refine (H6.out _).mono ?_
    rintro e w1 ⟨rfl,rfl⟩
    go_wp2_with fail
    refine (H7.out _ HB0.out).mono ?_
    rintro e w2 ⟨rfl,hb2⟩
    have HB2:=hid_intro (HB0.out.trans (hb2.mono HB0.out.size))
    have HX2:=hid_intro (HX0.out.below hb2)
    clear hb2 HX0
    obtain ⟨xl,xc⟩:=HX2.out
    have y2:w2.cell? ⟨w.heap.size,2,none⟩=some (.int .i64 mo):=xc 2 (by simp)
    have y4:w2.cell? ⟨w.heap.size,4,none⟩=some (.int .i64 su):=xc 4 (by simp)
    have y7:w2.cell? ⟨w.heap.size,7,none⟩=some (.slice ha hl hc):=xc 7 (by simp)
    clear xc
    go_wp2_with fail
    go_ret
    exact ⟨ret_bool (by simp),HB2.out⟩
   ·have q':(1:Int)≤(hl:Int):=by omega
    have q2':¬(hl:Int)≤12:=by omega
    rw [decide_eq_false (show ¬(1≤hl∧hl≤12) by omega)]
    go_enter Tryz.func54,Tryz.ntmps54
    go_wp2_with fail
    refine (H1.out _).mono ?_
    rintro e w1 ⟨rfl,rfl⟩
    go_wp2_with fail
    refine (H2.out _).mono ?_
    rintro e w1 ⟨rfl,rfl⟩
    go_wp2_with fail
    refine (H3.out _).mono ?_
    rintro e w1 ⟨rfl,rfl⟩
    go_wp2_with fail
    refine (H4.out _).mono ?_
    rintro e w1 ⟨rfl,rfl⟩
    go_wp2_with fail
    refine (H5.out _).mono ?_
    rintro e w1 ⟨rfl,rfl⟩
    go_wp2_with fail
    refine (H6.out _).mono ?_
    rintro e w1 ⟨rfl,rfl⟩
    go_wp2_with fail
    refine (H7.out _ HB0.out).mono ?_
    rintro e w2 ⟨rfl,hb2⟩
    have HB2:=hid_intro (HB0.out.trans (hb2.mono HB0.out.size))
    have HX2:=hid_intro (HX0.out.below hb2)
    clear hb2 HX0
    obtain ⟨xl,xc⟩:=HX2.out
    have y2:w2.cell? ⟨w.heap.size,2,none⟩=some (.int .i64 mo):=xc 2 (by simp)
    have y4:w2.cell? ⟨w.heap.size,4,none⟩=some (.int .i64 su):=xc 4 (by simp)
    have y7:w2.cell? ⟨w.heap.size,7,none⟩=some (.slice ha hl hc):=xc 7 (by simp)
    clear xc
    go_wp2_with fail
    go_ret
    exact ⟨ret_bool (by simp),HB2.out⟩
   ·have q':(1:Int)≤(hl:Int):=by omega
    have q2':(hl:Int)≤12:=by omega
    rw [decide_eq_true (show 1≤hl∧hl≤12 by omega)]
    have H9:=hid_intro (H8.out rfl q2)
    go_enter Tryz.func54,Tryz.ntmps54
    go_wp2_with fail
    refine (H1.out _).mono ?_
    rintro e w1 ⟨rfl,rfl⟩
    go_wp2_with fail
    refine (H2.out _).mono ?_
    rintro e w1 ⟨rfl,rfl⟩
    go_wp2_with fail
    refine (H3.out _).mono ?_
    rintro e w1 ⟨rfl,rfl⟩
    go_wp2_with fail
    refine (H4.out _).mono ?_
    rintro e w1 ⟨rfl,rfl⟩
    go_wp2_with fail
    refine (H5.out _).mono ?_
    rintro e w1 ⟨rfl,rfl⟩
    go_wp2_with fail
    refine (H6.out _).mono ?_
    rintro e w1 ⟨rfl,rfl⟩
    go_wp2_with fail
    refine (H7.out _ HB0.out).mono ?_
    rintro e w2 ⟨rfl,hb2⟩
    have HB2:=hid_intro (HB0.out.trans (hb2.mono HB0.out.size))
    have HX2:=hid_intro (HX0.out.below hb2)
    clear hb2 HX0
    obtain ⟨xl,xc⟩:=HX2.out
    have y2:w2.cell? ⟨w.heap.size,2,none⟩=some (.int .i64 mo):=xc 2 (by simp)
    have y4:w2.cell? ⟨w.heap.size,4,none⟩=some (.int .i64 su):=xc 4 (by simp)
    have y7:w2.cell? ⟨w.heap.size,7,none⟩=some (.slice ha hl hc):=xc 7 (by simp)
    clear xc
    go_wp2_with fail
    refine (H9.out _ HB2.out).mono ?_
    rintro e w3 ⟨rfl,hb3⟩
    have HB3:=hid_intro (HB2.out.trans (hb3.mono HB2.out.size))
    clear hb3
    go_wp2_with fail
    go_ret
    exact ⟨ret_bool (by simp),HB3.out⟩
theorem spec_window_right (x:Wd) (ta:Option Addr) (tc:Nat) (ha:Option Addr) (hc:Nat) (w:World) (h1:x.a.size≤1048576) (h2:x.m.size≤1048576) (h3:x.ts.length≤1048576) (h4:∀t∈x.ts,t.size≤1048576) (hT:Tgs ta x.ts w) (hH:Hrs ha x.hs w) :
 Calls Tryz.prog 54 #[.agg (wcells x ta tc ha hc)] w fun e w'=>e=.returned (.bool (wB x))∧Below w.heap.size w w' :=
 sright_in x.a x.m x.mo x.ev x.su x.mx ta x.ts.length tc ha x.hs.length hc _ _ _ _ _ _ _ _ w (fun W=>NameR.spec_any x.a W h1) (fun W=>NameR.spec_any x.m W h2) (fun W=>sisMonth_any x.mo W) (fun W=>EvtR.is_any x.ev 1 1000 W) (fun W=>EvtR.is_any x.su 0 1000000000000 W) (fun W=>EvtR.is_any x.mx 0 x.su W) (fun W hW=>spec_tags ta tc x.ts W h3 h4 (hT.below hW)) (fun hs hl W hW=>spec_hours ha hc x.hs x.mo x.su W hl (of_decide_eq_true hs) (hH.below hW))
end WinR
end Go.Proofs.YtmalfhhkjdkadaaGreatDoor
namespace Go.Proofs.YtmalfhhkjdkadaaGreatDoor
open Go.RowKit
set_option linter.unusedVariables false
namespace BilR
open LtR
section
variable {α β:Type} {f:α→ByteArray}
def insB (f:α→ByteArray) (x:α):List α→List α
 | []=>[x]
 | y::l=>if lt (f y) (f x)=true then y::insB f x l else x::y::l
def srt (f:α→ByteArray) (l:List α):List α:=l.foldl (fun acc x=>insB f x acc) []
def Ris (f:α→ByteArray) (l:List α):Prop:=l.Pairwise (fun a b=>lt (f a) (f b)=true)
theorem insB_perm (x:α):∀l:List α,(insB f x l).Perm (x::l)
 | []=>List.Perm.refl _
 | y::l=>by
  unfold insB
  split
  ·exact ((insB_perm x l).cons y).trans (List.Perm.swap x y l)
  ·exact List.Perm.refl _
theorem insB_mem {x z:α} {l:List α} (h:z∈insB f x l):z=x∨z∈l:=by
 have:=(insB_perm x l).mem_iff.1 h
 simpa using this
theorem insB_ris {x:α}:∀{l:List α},Ris f l→(∀y∈l,f y≠f x)→Ris f (insB f x l)
 | [],_,_=>List.pairwise_singleton _ _
 | y::l,h,hn=>by
  obtain ⟨h1,h2⟩:=List.pairwise_cons.1 h
  unfold insB
  split
  ·rename_i q
   refine List.pairwise_cons.2 ⟨fun z hz=>?_,insB_ris h2 (fun z hz=>hn z (List.mem_cons_of_mem _ hz))⟩
   rcases insB_mem hz with rfl|hz
   ·exact q
   ·exact h1 z hz
  ·rename_i q
   have q1:lt (f x) (f y)=true:=by
    cases q2:lt (f x) (f y)
    ·exact absurd (lt_total (by simpa using q) q2) (hn y (List.mem_cons_self ..))
    ·rfl
   refine List.pairwise_cons.2 ⟨fun z hz=>?_,h⟩
   rcases List.mem_cons.1 hz with rfl|hz
   ·exact q1
   ·exact lt_trans q1 (h1 z hz)
theorem insB_map (g:β→α) (x:β):∀l:List β,(insB (fun b=>f (g b)) x l).map g=insB f (g x) (l.map g)
 | []=>rfl
 | y::l=>by
  simp only [insB,List.map_cons]
  split
  ·rw [List.map_cons,insB_map g x l]
  ·rfl
theorem srt_snoc (l:List α) (x:α):srt f (l ++ [x])=insB f x (srt f l):=by simp [srt,List.foldl_append]
theorem rev_ind {α:Type} {P:List α→Prop} (h0:P []) (h1:∀l x,P l→P (l ++ [x])) (l:List α):P l:=by
 have:∀l:List α,P l.reverse:=fun l=>by
  induction l with
  | nil=>exact h0
  | cons x l ih=>rw [List.reverse_cons];exact h1 _ _ ih
 have q:=this l.reverse
 rwa [List.reverse_reverse] at q
theorem srt_perm (l:List α):(srt f l).Perm l:=by
 refine rev_ind (P:=fun l=>(srt f l).Perm l) (List.Perm.refl _) (fun l x ih=>?_) l
 rw [srt_snoc]
 exact ((insB_perm x _).trans (ih.cons x)).trans (List.perm_append_singleton x l).symm
theorem srt_map (g:β→α) (l:List β):(srt (fun b=>f (g b)) l).map g=srt f (l.map g):=by
 refine rev_ind (P:=fun l=>(srt (fun b=>f (g b)) l).map g=srt f (l.map g)) rfl (fun l x ih=>?_) l
 rw [srt_snoc,insB_map,ih,List.map_append,List.map_singleton,srt_snoc]
theorem srt_ris (l:List α) (h:(l.map f).Nodup):Ris f (srt f l):=by
 revert h
 refine rev_ind (P:=fun l=>(l.map f).Nodup→Ris f (srt f l)) (fun _=>List.Pairwise.nil) (fun l x ih h=>?_) l
 rw [List.map_append,List.map_singleton] at h
 obtain ⟨h1,_,h3⟩:=List.nodup_append.1 h
 rw [srt_snoc]
 refine insB_ris (ih h1) (fun y hy e=>?_)
 exact h3 (f y) (List.mem_map_of_mem ((srt_perm l).mem_iff.1 hy)) (f x) (List.mem_singleton.2 rfl) e
theorem ris_nodup {l:List α} (h:Ris f l):(l.map f).Nodup:=by
 unfold List.Nodup
 rw [List.pairwise_map]
 exact h.imp (fun {a b} q e=>by rw [e,lt_irrefl] at q;cases q)
theorem ris_eq:∀{a b:List α},Ris f a→Ris f b→a.Perm b→a=b
 | [],b,_,_,h=>(List.Perm.nil_eq h)
 | x::a,[],_,_,h=>by have:=h.length_eq;simp at this
 | x::a,y::b,ha,hb,h=>by
  obtain ⟨a1,a2⟩:=List.pairwise_cons.1 ha
  obtain ⟨b1,b2⟩:=List.pairwise_cons.1 hb
  have hx:x∈y::b:=h.mem_iff.1 (List.mem_cons_self ..)
  have hy:y∈x::a:=h.mem_iff.2 (List.mem_cons_self ..)
  have e:x=y:=by
   rcases List.mem_cons.1 hx with q|q
   ·exact q
   ·rcases List.mem_cons.1 hy with p|p
    ·exact p.symm
    ·have q1:=b1 x q
     rw [lt_asymm (a1 y p)] at q1
     cases q1
  subst e
  rw [ris_eq a2 b2 (List.Perm.cons_inv h)]
theorem srt_eq {l d:List α} (hd:Ris f d) (hp:d.Perm l):d=srt f l :=
 ris_eq hd (srt_ris l (by
  have:=(hp.map f).nodup_iff.1 (ris_nodup hd)
  exact this)) (hp.trans (srt_perm l).symm)
end
end BilR
end Go.Proofs.YtmalfhhkjdkadaaGreatDoor
namespace Go.Proofs.YtmalfhhkjdkadaaGreatDoor
open Go.ChangeShapes Go.WideShapes Go.ChangeAt Go.RowKit
set_option linter.unusedVariables false
namespace WinR
open RowG LtR
open CatR (Blk Blk.new)
open DateR (Laid)
def grt (p q:Int):Int:=if q<p then p else q
def pk (hs:List H):Int:=hs.foldl (fun p x=>grt p x.s) 0
theorem pk_take (hs:List H) (k:Nat) (h:k<hs.length):pk (hs.take (k+1))=grt (pk (hs.take k)) (hs.getD k H.zero).s:=by
 unfold pk
 rw [take_more (z:=H.zero) hs k h,List.foldl_append]
 rfl
def valV (x:Wd) (g:Int):Int:=if g=1 then x.su else if g=2 then x.mx else if g=3 then (x.ts.length:Int) else if g=4 then pk x.hs else 0
def valueV (x:Wd) (g:Int):Int:=bif wB x then valV x g else 0
theorem smax_any (p q:Int) (w:World):Calls Tryz.prog 105 #[.int .i64 p,.int .i64 q] w fun e w'=>e=.returned (.int .i64 (grt p q))∧w'=w:=by
 unfold grt
 by_cases h:q<p
 ·rw [if_pos h]
  go_enter Tryz.func105,Tryz.ntmps105
  go_wp2
  go_ret
  exact ⟨rfl,rfl⟩
 ·rw [if_neg h]
  go_enter Tryz.func105,Tryz.ntmps105
  go_wp2
  go_ret
  exact ⟨rfl,rfl⟩
theorem agg1 (a m:ByteArray) (mo ev su mx:Int) (ta:Option Addr) (tl tc:Nat) (ha:Option Addr) (hl hc:Nat) (w:World):Calls Tryz.prog 225 #[.agg #[.string a,.string m,.int .i64 mo,.int .i64 ev,.int .i64 su,.int .i64 mx,.slice ta tl tc,.slice ha hl hc]] w fun e w'=>e=.returned (.int .i64 su)∧Below w.heap.size w w':=by
 go_enter Tryz.func225,Tryz.ntmps225
 go_wp2
 go_ret
 exact ⟨rfl,(Below.refl _ _).alloc (Nat.le_refl _) _⟩
theorem agg2 (a m:ByteArray) (mo ev su mx:Int) (ta:Option Addr) (tl tc:Nat) (ha:Option Addr) (hl hc:Nat) (w:World):Calls Tryz.prog 226 #[.agg #[.string a,.string m,.int .i64 mo,.int .i64 ev,.int .i64 su,.int .i64 mx,.slice ta tl tc,.slice ha hl hc]] w fun e w'=>e=.returned (.int .i64 mx)∧Below w.heap.size w w':=by
 go_enter Tryz.func226,Tryz.ntmps226
 go_wp2
 go_ret
 exact ⟨rfl,(Below.refl _ _).alloc (Nat.le_refl _) _⟩
theorem agg3 (a m:ByteArray) (mo ev su mx:Int) (ta:Option Addr) (tl tc:Nat) (ha:Option Addr) (hl hc:Nat) (w:World):Calls Tryz.prog 227 #[.agg #[.string a,.string m,.int .i64 mo,.int .i64 ev,.int .i64 su,.int .i64 mx,.slice ta tl tc,.slice ha hl hc]] w fun e w'=>e=.returned (.int .i64 (tl:Int))∧Below w.heap.size w w':=by
 go_enter Tryz.func227,Tryz.ntmps227
 go_wp2
 go_ret
 exact ⟨rfl,(Below.refl _ _).alloc (Nat.le_refl _) _⟩
set_option maxHeartbeats 4000000 in
theorem impl_peak (a m:ByteArray) (mo ev su mx:Int) (tv:Value) (ha:Option Addr) (hs:List H) (hc:Nat) (w:World) (hlen:hs.length≤1048576) (hI:Hrs ha hs w) :
 Calls Tryz.prog 228 #[.agg #[.string a,.string m,.int .i64 mo,.int .i64 ev,.int .i64 su,.int .i64 mx,tv,.slice ha hs.length hc]] w fun e w'=>e=.returned (.int .i64 (pk hs))∧Below w.heap.size w w':=by
 have HI:=hid_intro hI
 obtain ⟨len,hl⟩:∃len,len=hs.length:=⟨_,rfl⟩
 rw [←hl] at hlen ⊢
 have HL:=hid_intro hl
 have HE:Hid (pk (hs.take len)=pk hs):=hid_intro (by rw [List.take_of_length_le (by omega)])
 generalize pk hs=R at *
 clear hI hl
 have HB0:Hid (Below w.heap.size w (w.alloc (.cells #[.string a,.string m,.int .i64 mo,.int .i64 ev,.int .i64 su,.int .i64 mx,tv,.slice ha len hc] 107))):=hid_intro ((Below.refl _ _).alloc (Nat.le_refl _) _)
 go_enter Tryz.func228,Tryz.ntmps228
 go_wp2_with fail
 go_loopw [3,9] (fun y z wr=>∃k:Nat,k≤len∧y=.int .i64 (pk (hs.take k))∧z=.int .i64 k∧Hid (Below w.heap.size w wr)) (fun y z _=>len-(intOf z).toNat)
 case atStart=>exact ⟨0,by omega,rfl,rfl,HB0⟩
 case round =>
  obtain ⟨k,hk,rfl,rfl,HB⟩:=hrel
  by_cases hlt1:k<len
  ·have hlt2:(k:Int)<(len:Int):=by omega
   obtain ⟨b,off,rfl,hbl,c0,c1⟩:=(HI.out.below HB.out).at k (by have:=HL.out;omega)
   have HP:=hid_intro (pk_take hs k (by have:=HL.out;omega))
   generalize hs.getD k H.zero=X at *
   obtain ⟨xh,xs⟩:=X
   dsimp only at c0 c1 HP
   generalize pk (hs.take k)=T at *
   by_cases hm:xs<T
   ·have HP2:Hid (pk (hs.take (k+1))=T):=hid_intro (by rw [HP.out];unfold grt;rw [if_pos hm])
    have hm2:max T xs=T:=by omega
    have hm3:¬T<xs:=by omega
    have hm4:¬T≤xs:=by omega
    go_wp2_with fail
    go_roundw
    case rel=>exact ⟨k+1,by omega,by first|(rw [HP2.out];done)|(rw [HP2.out];congr 1;omega),by go_num,hid_intro (HB.out.alloc HB.out.size _)⟩
    case measure=>simp [intOf];omega
   ·have HP2:Hid (pk (hs.take (k+1))=xs):=hid_intro (by rw [HP.out];unfold grt;rw [if_neg hm])
    have hm2:max T xs=xs:=by omega
    have hm4:T≤xs:=by omega
    go_wp2_with fail
    go_roundw
    case rel=>exact ⟨k+1,by omega,by first|(rw [HP2.out];done)|(rw [HP2.out];congr 1;omega),by go_num,hid_intro (HB.out.alloc HB.out.size _)⟩
    case measure=>simp [intOf];omega
  ·have hlt2:¬(k:Int)<(len:Int):=by omega
   obtain rfl:k=len:=by omega
   have HE2:=HE.out
   generalize pk (hs.take k)=T at *
   subst HE2
   go_wp2_with fail
   go_ret
   exact ⟨rfl,HB.out⟩
theorem impl_aggs (w:World):Calls Tryz.prog 204 #[] w fun e w'=>∃g,e=.returned (.slice (some ⟨g,0,none⟩) 4 4)∧Blk g [.int .i64 1,.func (.func 225) #[] #[],.int .i64 2,.func (.func 226) #[] #[],.int .i64 3,.func (.func 227) #[] #[],.int .i64 4,.func (.func 228) #[] #[]] w'∧Below w.heap.size w w':=by
 go_enter Tryz.func204,Tryz.ntmps204
 go_wp2_with fail
 go_ret
 exact ⟨_,rfl,Blk.new w [.int .i64 1,.func (.func 225) #[] #[],.int .i64 2,.func (.func 226) #[] #[],.int .i64 3,.func (.func 227) #[] #[],.int .i64 4,.func (.func 228) #[] #[]] _,(Below.refl _ _).alloc (Nat.le_refl _) _⟩
set_option maxRecDepth 100000 in
set_option maxHeartbeats 8000000 in
theorem value_in (a m:ByteArray) (mo ev su mx:Int) (ta:Option Addr) (tl tc:Nat) (ha:Option Addr) (hl hc:Nat) (g P:Int) (w:World)
 (h2:∀W,Calls Tryz.prog 225 #[.agg #[.string a,.string m,.int .i64 mo,.int .i64 ev,.int .i64 su,.int .i64 mx,.slice ta tl tc,.slice ha hl hc]] W fun e w'=>e=.returned (.int .i64 su)∧Below W.heap.size W w')
 (h3:∀W,Calls Tryz.prog 226 #[.agg #[.string a,.string m,.int .i64 mo,.int .i64 ev,.int .i64 su,.int .i64 mx,.slice ta tl tc,.slice ha hl hc]] W fun e w'=>e=.returned (.int .i64 mx)∧Below W.heap.size W w')
 (h4:∀W,Calls Tryz.prog 227 #[.agg #[.string a,.string m,.int .i64 mo,.int .i64 ev,.int .i64 su,.int .i64 mx,.slice ta tl tc,.slice ha hl hc]] W fun e w'=>e=.returned (.int .i64 (tl:Int))∧Below W.heap.size W w')
 (h5:∀W,Below w.heap.size w W→Calls Tryz.prog 228 #[.agg #[.string a,.string m,.int .i64 mo,.int .i64 ev,.int .i64 su,.int .i64 mx,.slice ta tl tc,.slice ha hl hc]] W fun e w'=>e=.returned (.int .i64 P)∧Below W.heap.size W w')
 (h1:∀W,Below w.heap.size w W→Calls Tryz.prog 123 #[.agg #[.string a,.string m,.int .i64 mo,.int .i64 ev,.int .i64 su,.int .i64 mx,.slice ta tl tc,.slice ha hl hc]] W fun e w'=>e=.returned (.bool true)∧Below W.heap.size W w') :
 Calls Tryz.prog 172 #[.agg #[.string a,.string m,.int .i64 mo,.int .i64 ev,.int .i64 su,.int .i64 mx,.slice ta tl tc,.slice ha hl hc],.int .i64 g] w fun e w'=>e=.returned (.int .i64 (if g=1 then su else if g=2 then mx else if g=3 then (tl:Int) else if g=4 then P else 0))∧Below w.heap.size w w':=by
 have H1:=hid_intro h1
 have H2:=hid_intro h2
 have H3:=hid_intro h3
 have H4:=hid_intro h4
 have H5:=hid_intro h5
 have H0:=hid_intro impl_aggs
 clear h1 h2 h3 h4 h5
 have HV:Hid (∀v,v=(if g=1 then su else if g=2 then mx else if g=3 then (tl:Int) else if g=4 then P else 0)→v=(if g=1 then su else if g=2 then mx else if g=3 then (tl:Int) else if g=4 then P else 0)):=hid_intro (fun _ h=>h)
 generalize hR:(if g=1 then su else if g=2 then mx else if g=3 then (tl:Int) else if g=4 then P else 0)=R
 have HR:=hid_intro hR
 clear hR HV
 have HB0:Hid (Below w.heap.size w (w.alloc (.cells #[.string a,.string m,.int .i64 mo,.int .i64 ev,.int .i64 su,.int .i64 mx,.slice ta tl tc,.slice ha hl hc] 107))):=hid_intro ((Below.refl _ _).alloc (Nat.le_refl _) _)
 have HX0:=hid_intro (Blk.new w [.string a,.string m,.int .i64 mo,.int .i64 ev,.int .i64 su,.int .i64 mx,.slice ta tl tc,.slice ha hl hc] 107)
 go_enter Tryz.func172,Tryz.ntmps172
 go_wp2_with fail
 refine (H1.out _ HB0.out).mono ?_
 rintro e w1 ⟨rfl,hb1⟩
 have HB1:=hid_intro (HB0.out.trans (hb1.mono HB0.out.size))
 have HX1:=hid_intro (HX0.out.below hb1)
 clear hb1 HB0 HX0
 go_wp2_with fail
 refine (H0.out _).mono ?_
 rintro e w2 ⟨G,rfl,hA2,hb2⟩
 have HB2:=hid_intro (HB1.out.trans (hb2.mono HB1.out.size))
 have HX2:=hid_intro (HX1.out.below hb2)
 have HA2:=hid_intro hA2
 clear hb2 hA2 HB1 HX1
 go_wp2_with fail
 go_loopw [12] (fun z wr=>∃k:Nat,k≤4∧z=.int .i64 k∧Hid (∀j:Nat,j<k→g≠(j:Int)+1)∧Hid (Below w.heap.size w wr)∧Hid (Blk w.heap.size [.string a,.string m,.int .i64 mo,.int .i64 ev,.int .i64 su,.int .i64 mx,.slice ta tl tc,.slice ha hl hc] wr)∧Hid (Blk G [.int .i64 1,.func (.func 225) #[] #[],.int .i64 2,.func (.func 226) #[] #[],.int .i64 3,.func (.func 227) #[] #[],.int .i64 4,.func (.func 228) #[] #[]] wr)) (fun z _=>4-(intOf z).toNat)
 case atStart=>exact ⟨0,by omega,rfl,hid_intro (fun j hj=>absurd hj (by omega)),HB2,HX2,HA2⟩
 case round =>
  obtain ⟨k,hk,rfl,HN,HB,HX,HA⟩:=hrel
  have hxl:=HX.out.1
  have hgl:=HA.out.1
  rcases (show k=0∨k=1∨k=2∨k=3∨k=4 by omega) with rfl|rfl|rfl|rfl|rfl
  ·have k0:wr.cell? ⟨G,0,none⟩=some (.int .i64 1):=HA.out.2 0 (by simp)
   have k1:wr.cell? ⟨G,1,none⟩=some (.func (.func 225) #[] #[]):=HA.out.2 1 (by simp)
   have HBa:=hid_intro (HB.out.alloc HB.out.size (.cells #[.int .i64 1,.func (.func 225) #[] #[]] 278))
   have HXa:=hid_intro (HX.out.alloc (.cells #[.int .i64 1,.func (.func 225) #[] #[]] 278))
   have HAa:=hid_intro (HA.out.alloc (.cells #[.int .i64 1,.func (.func 225) #[] #[]] 278))
   by_cases hg:g=1
   ·subst hg
    have HR2:Hid (R=su):=hid_intro (by have h:=HR.out;simpa using h.symm)
    have x0:wr.cell? ⟨w.heap.size,0,none⟩=some (.string a):=HX.out.2 0 (by simp)
    have x1:wr.cell? ⟨w.heap.size,1,none⟩=some (.string m):=HX.out.2 1 (by simp)
    have x2:wr.cell? ⟨w.heap.size,2,none⟩=some (.int .i64 mo):=HX.out.2 2 (by simp)
    have x3:wr.cell? ⟨w.heap.size,3,none⟩=some (.int .i64 ev):=HX.out.2 3 (by simp)
    have x4:wr.cell? ⟨w.heap.size,4,none⟩=some (.int .i64 su):=HX.out.2 4 (by simp)
    have x5:wr.cell? ⟨w.heap.size,5,none⟩=some (.int .i64 mx):=HX.out.2 5 (by simp)
    have x6:wr.cell? ⟨w.heap.size,6,none⟩=some (.slice ta tl tc):=HX.out.2 6 (by simp)
    have x7:wr.cell? ⟨w.heap.size,7,none⟩=some (.slice ha hl hc):=HX.out.2 7 (by simp)
    go_wp2_with fail
    refine (H2.out _).mono ?_
    rintro e w3 ⟨rfl,hb3⟩
    have HB3:=hid_intro (HBa.out.trans (hb3.mono HBa.out.size))
    clear hb3
    go_wp2_with fail
    go_ret
    exact ⟨ret_int HR2.out.symm,HB3.out⟩
   ·have hg2:((1:Int)==g)=false:=by simp;omega
    have hg3:¬(1:Int)=g:=by omega
    go_wp2_with fail
    go_roundw
    case rel=>exact ⟨1,by omega,by go_num,hid_intro (fun j hj=>by
     by_cases e:j=0
     ·subst e;simpa using hg
     ·exact HN.out j (by omega)),HBa,HXa,HAa⟩
    case measure=>simp [intOf]
  ·have k0:wr.cell? ⟨G,2,none⟩=some (.int .i64 2):=HA.out.2 2 (by simp)
   have k1:wr.cell? ⟨G,3,none⟩=some (.func (.func 226) #[] #[]):=HA.out.2 3 (by simp)
   have HBa:=hid_intro (HB.out.alloc HB.out.size (.cells #[.int .i64 2,.func (.func 226) #[] #[]] 278))
   have HXa:=hid_intro (HX.out.alloc (.cells #[.int .i64 2,.func (.func 226) #[] #[]] 278))
   have HAa:=hid_intro (HA.out.alloc (.cells #[.int .i64 2,.func (.func 226) #[] #[]] 278))
   by_cases hg:g=2
   ·subst hg
    have HR2:Hid (R=mx):=hid_intro (by have h:=HR.out;simpa using h.symm)
    have x0:wr.cell? ⟨w.heap.size,0,none⟩=some (.string a):=HX.out.2 0 (by simp)
    have x1:wr.cell? ⟨w.heap.size,1,none⟩=some (.string m):=HX.out.2 1 (by simp)
    have x2:wr.cell? ⟨w.heap.size,2,none⟩=some (.int .i64 mo):=HX.out.2 2 (by simp)
    have x3:wr.cell? ⟨w.heap.size,3,none⟩=some (.int .i64 ev):=HX.out.2 3 (by simp)
    have x4:wr.cell? ⟨w.heap.size,4,none⟩=some (.int .i64 su):=HX.out.2 4 (by simp)
    have x5:wr.cell? ⟨w.heap.size,5,none⟩=some (.int .i64 mx):=HX.out.2 5 (by simp)
    have x6:wr.cell? ⟨w.heap.size,6,none⟩=some (.slice ta tl tc):=HX.out.2 6 (by simp)
    have x7:wr.cell? ⟨w.heap.size,7,none⟩=some (.slice ha hl hc):=HX.out.2 7 (by simp)
    go_wp2_with fail
    refine (H3.out _).mono ?_
    rintro e w3 ⟨rfl,hb3⟩
    have HB3:=hid_intro (HBa.out.trans (hb3.mono HBa.out.size))
    clear hb3
    go_wp2_with fail
    go_ret
    exact ⟨ret_int HR2.out.symm,HB3.out⟩
   ·have hg2:((2:Int)==g)=false:=by simp;omega
    have hg3:¬(2:Int)=g:=by omega
    go_wp2_with fail
    go_roundw
    case rel=>exact ⟨2,by omega,by go_num,hid_intro (fun j hj=>by
     by_cases e:j=1
     ·subst e;simpa using hg
     ·exact HN.out j (by omega)),HBa,HXa,HAa⟩
    case measure=>simp [intOf]
  ·have k0:wr.cell? ⟨G,4,none⟩=some (.int .i64 3):=HA.out.2 4 (by simp)
   have k1:wr.cell? ⟨G,5,none⟩=some (.func (.func 227) #[] #[]):=HA.out.2 5 (by simp)
   have HBa:=hid_intro (HB.out.alloc HB.out.size (.cells #[.int .i64 3,.func (.func 227) #[] #[]] 278))
   have HXa:=hid_intro (HX.out.alloc (.cells #[.int .i64 3,.func (.func 227) #[] #[]] 278))
   have HAa:=hid_intro (HA.out.alloc (.cells #[.int .i64 3,.func (.func 227) #[] #[]] 278))
   by_cases hg:g=3
   ·subst hg
    have HR2:Hid (R=(tl:Int)):=hid_intro (by have h:=HR.out;simpa using h.symm)
    have x0:wr.cell? ⟨w.heap.size,0,none⟩=some (.string a):=HX.out.2 0 (by simp)
    have x1:wr.cell? ⟨w.heap.size,1,none⟩=some (.string m):=HX.out.2 1 (by simp)
    have x2:wr.cell? ⟨w.heap.size,2,none⟩=some (.int .i64 mo):=HX.out.2 2 (by simp)
    have x3:wr.cell? ⟨w.heap.size,3,none⟩=some (.int .i64 ev):=HX.out.2 3 (by simp)
    have x4:wr.cell? ⟨w.heap.size,4,none⟩=some (.int .i64 su):=HX.out.2 4 (by simp)
    have x5:wr.cell? ⟨w.heap.size,5,none⟩=some (.int .i64 mx):=HX.out.2 5 (by simp)
    have x6:wr.cell? ⟨w.heap.size,6,none⟩=some (.slice ta tl tc):=HX.out.2 6 (by simp)
    have x7:wr.cell? ⟨w.heap.size,7,none⟩=some (.slice ha hl hc):=HX.out.2 7 (by simp)
    go_wp2_with fail
    refine (H4.out _).mono ?_
    rintro e w3 ⟨rfl,hb3⟩
    have HB3:=hid_intro (HBa.out.trans (hb3.mono HBa.out.size))
    clear hb3
    go_wp2_with fail
    go_ret
    exact ⟨ret_int HR2.out.symm,HB3.out⟩
   ·have hg2:((3:Int)==g)=false:=by simp;omega
    have hg3:¬(3:Int)=g:=by omega
    go_wp2_with fail
    go_roundw
    case rel=>exact ⟨3,by omega,by go_num,hid_intro (fun j hj=>by
     by_cases e:j=2
     ·subst e;simpa using hg
     ·exact HN.out j (by omega)),HBa,HXa,HAa⟩
    case measure=>simp [intOf]
  ·have k0:wr.cell? ⟨G,6,none⟩=some (.int .i64 4):=HA.out.2 6 (by simp)
   have k1:wr.cell? ⟨G,7,none⟩=some (.func (.func 228) #[] #[]):=HA.out.2 7 (by simp)
   have HBa:=hid_intro (HB.out.alloc HB.out.size (.cells #[.int .i64 4,.func (.func 228) #[] #[]] 278))
   have HXa:=hid_intro (HX.out.alloc (.cells #[.int .i64 4,.func (.func 228) #[] #[]] 278))
   have HAa:=hid_intro (HA.out.alloc (.cells #[.int .i64 4,.func (.func 228) #[] #[]] 278))
   by_cases hg:g=4
   ·subst hg
    have HR2:Hid (R=P):=hid_intro (by have h:=HR.out;simpa using h.symm)
    have x0:wr.cell? ⟨w.heap.size,0,none⟩=some (.string a):=HX.out.2 0 (by simp)
    have x1:wr.cell? ⟨w.heap.size,1,none⟩=some (.string m):=HX.out.2 1 (by simp)
    have x2:wr.cell? ⟨w.heap.size,2,none⟩=some (.int .i64 mo):=HX.out.2 2 (by simp)
    have x3:wr.cell? ⟨w.heap.size,3,none⟩=some (.int .i64 ev):=HX.out.2 3 (by simp)
    have x4:wr.cell? ⟨w.heap.size,4,none⟩=some (.int .i64 su):=HX.out.2 4 (by simp)
    have x5:wr.cell? ⟨w.heap.size,5,none⟩=some (.int .i64 mx):=HX.out.2 5 (by simp)
    have x6:wr.cell? ⟨w.heap.size,6,none⟩=some (.slice ta tl tc):=HX.out.2 6 (by simp)
    have x7:wr.cell? ⟨w.heap.size,7,none⟩=some (.slice ha hl hc):=HX.out.2 7 (by simp)
    go_wp2_with fail
    refine (H5.out _ HBa.out).mono ?_
    rintro e w3 ⟨rfl,hb3⟩
    have HB3:=hid_intro (HBa.out.trans (hb3.mono HBa.out.size))
    clear hb3
    go_wp2_with fail
    go_ret
    exact ⟨ret_int HR2.out.symm,HB3.out⟩
   ·have hg2:((4:Int)==g)=false:=by simp;omega
    have hg3:¬(4:Int)=g:=by omega
    go_wp2_with fail
    go_roundw
    case rel=>exact ⟨4,by omega,by go_num,hid_intro (fun j hj=>by
     by_cases e:j=3
     ·subst e;simpa using hg
     ·exact HN.out j (by omega)),HBa,HXa,HAa⟩
    case measure=>simp [intOf]
  ·have HR2:Hid (R=0):=hid_intro (by
    have h:=HR.out
    have n0:=HN.out 0 (by omega)
    have n1:=HN.out 1 (by omega)
    have n2:=HN.out 2 (by omega)
    have n3:=HN.out 3 (by omega)
    rw [if_neg (by omega),if_neg (by omega),if_neg (by omega),if_neg (by omega)] at h
    exact h.symm)
   go_wp2_with fail
   go_ret
   exact ⟨ret_int HR2.out.symm,HB.out⟩
theorem value_no (a m:ByteArray) (mo ev su mx:Int) (ta:Option Addr) (tl tc:Nat) (ha:Option Addr) (hl hc:Nat) (g:Int) (w:World)
 (h1:∀W,Below w.heap.size w W→Calls Tryz.prog 123 #[.agg #[.string a,.string m,.int .i64 mo,.int .i64 ev,.int .i64 su,.int .i64 mx,.slice ta tl tc,.slice ha hl hc]] W fun e w'=>e=.returned (.bool false)∧Below W.heap.size W w') :
 Calls Tryz.prog 172 #[.agg #[.string a,.string m,.int .i64 mo,.int .i64 ev,.int .i64 su,.int .i64 mx,.slice ta tl tc,.slice ha hl hc],.int .i64 g] w fun e w'=>e=.returned (.int .i64 0)∧Below w.heap.size w w':=by
 have H1:=hid_intro h1
 clear h1
 have HB0:Hid (Below w.heap.size w (w.alloc (.cells #[.string a,.string m,.int .i64 mo,.int .i64 ev,.int .i64 su,.int .i64 mx,.slice ta tl tc,.slice ha hl hc] 107))):=hid_intro ((Below.refl _ _).alloc (Nat.le_refl _) _)
 go_enter Tryz.func172,Tryz.ntmps172
 go_wp2_with fail
 refine (H1.out _ HB0.out).mono ?_
 rintro e w1 ⟨rfl,hb1⟩
 have HB1:=hid_intro (HB0.out.trans (hb1.mono HB0.out.size))
 clear hb1
 go_wp2_with fail
 go_ret
 exact ⟨rfl,HB1.out⟩
theorem impl_value (x:Wd) (g:Int) (ta:Option Addr) (tc:Nat) (ha:Option Addr) (hc:Nat) (w:World) (h1:x.a.size≤1048576) (h2:x.m.size≤1048576) (h3:x.ts.length≤1048576) (h4:∀t∈x.ts,t.size≤1048576) (h5:x.hs.length≤1048576) (hL:Laid w) (hT:Tgs ta x.ts w) (hH:Hrs ha x.hs w) :
 Calls Tryz.prog 172 #[.agg (wcells x ta tc ha hc),.int .i64 g] w fun e w'=>e=.returned (.int .i64 (valueV x g))∧Below w.heap.size w w':=by
 have hr:=fun W (hW:Below w.heap.size w W)=>impl_window_right x ta tc ha hc W h1 h2 h3 h4 h5 (hL.below hW) (hT.below hW) (hH.below hW)
 unfold valueV valV
 cases hb:wB x
 ·rw [hb] at hr
  exact value_no x.a x.m x.mo x.ev x.su x.mx ta x.ts.length tc ha x.hs.length hc g w hr
 ·rw [hb] at hr
  exact value_in x.a x.m x.mo x.ev x.su x.mx ta x.ts.length tc ha x.hs.length hc g (pk x.hs) w (fun W=>agg1 _ _ _ _ _ _ _ _ _ _ _ _ W) (fun W=>agg2 _ _ _ _ _ _ _ _ _ _ _ _ W) (fun W=>agg3 _ _ _ _ _ _ _ _ _ _ _ _ W) (fun W hW=>impl_peak _ _ _ _ _ _ _ ha x.hs hc W h5 (hH.below hW)) hr
set_option maxRecDepth 100000 in
set_option maxHeartbeats 8000000 in
theorem svalue_in (a m:ByteArray) (mo ev su mx:Int) (ta:Option Addr) (tl tc:Nat) (ha:Option Addr) (hs:List H) (hc:Nat) (g:Int) (w:World) (hlen:hs.length≤1048576) (hH:Hrs ha hs w) :
 Calls Tryz.prog 60 #[.agg #[.string a,.string m,.int .i64 mo,.int .i64 ev,.int .i64 su,.int .i64 mx,.slice ta tl tc,.slice ha hs.length hc],.int .i64 g] w fun e w'=>e=.returned (.int .i64 (if g=1 then su else if g=2 then mx else if g=3 then (tl:Int) else if g=4 then pk hs else 0))∧Below w.heap.size w w':=by
 have HI:=hid_intro hH
 obtain ⟨hl,hhl⟩:∃hl,hl=hs.length:=⟨_,rfl⟩
 rw [←hhl] at hlen ⊢
 have HL:=hid_intro hhl
 have HE:Hid (pk (hs.take hl)=pk hs):=hid_intro (by rw [List.take_of_length_le (by omega)])
 clear hH hhl
 have HB0:Hid (Below w.heap.size w (w.alloc (.cells #[.string a,.string m,.int .i64 mo,.int .i64 ev,.int .i64 su,.int .i64 mx,.slice ta tl tc,.slice ha hl hc] 107))):=hid_intro ((Below.refl _ _).alloc (Nat.le_refl _) _)
 have HX0:=hid_intro (Blk.new w [.string a,.string m,.int .i64 mo,.int .i64 ev,.int .i64 su,.int .i64 mx,.slice ta tl tc,.slice ha hl hc] 107)
 by_cases g1:g=1
 ·subst g1
  rw [if_pos rfl]
  go_enter Tryz.func60,Tryz.ntmps60
  go_wp2_with fail
  go_ret
  exact ⟨rfl,HB0.out⟩
 by_cases g2:g=2
 ·subst g2
  rw [if_neg (by omega),if_pos rfl]
  go_enter Tryz.func60,Tryz.ntmps60
  go_wp2_with fail
  go_ret
  exact ⟨rfl,HB0.out⟩
 by_cases g3:g=3
 ·subst g3
  rw [if_neg (by omega),if_neg (by omega),if_pos rfl]
  go_enter Tryz.func60,Tryz.ntmps60
  go_wp2_with fail
  go_ret
  exact ⟨rfl,HB0.out⟩
 by_cases g4:g=4
 ·subst g4
  rw [if_neg (by omega),if_neg (by omega),if_neg (by omega),if_pos rfl]
  generalize pk hs=R at *
  go_enter Tryz.func60,Tryz.ntmps60
  go_wp2_with fail
  go_loopw [5,6] (fun y z wr=>∃k:Nat,k≤hl∧y=.int .i64 (pk (hs.take k))∧z=.int .i64 k∧Hid (Below w.heap.size w wr)∧Hid (Blk w.heap.size [.string a,.string m,.int .i64 mo,.int .i64 ev,.int .i64 su,.int .i64 mx,.slice ta tl tc,.slice ha hl hc] wr)) (fun y z _=>hl-(intOf z).toNat)
  case atStart=>exact ⟨0,by omega,rfl,rfl,HB0,HX0⟩
  case round =>
   obtain ⟨k,hk,rfl,rfl,HB,HX⟩:=hrel
   have hxl:=HX.out.1
   have x7:wr.cell? ⟨w.heap.size,7,none⟩=some (.slice ha hl hc):=HX.out.2 7 (by simp)
   by_cases hlt1:k<hl
   ·have hlt2:(k:Int)<(hl:Int):=by omega
    obtain ⟨b,off,rfl,hbl,c0,c1⟩:=(HI.out.below HB.out).at k (by have:=HL.out;omega)
    have HP:=hid_intro (pk_take hs k (by have:=HL.out;omega))
    generalize hs.getD k H.zero=X at *
    obtain ⟨xh,xs⟩:=X
    dsimp only at c0 c1 HP
    generalize pk (hs.take k)=T at *
    have HM:=hid_intro (fun w=>smax_any T xs w)
    generalize grt T xs=T2 at *
    go_wp2_with fail
    refine (HM.out _).mono ?_
    rintro e w2 ⟨rfl,rfl⟩
    go_wp2_with fail
    go_roundw
    case rel=>exact ⟨k+1,by omega,by rw [HP.out],by go_num,HB,HX⟩
    case measure=>simp [intOf];omega
   ·have hlt2:¬(k:Int)<(hl:Int):=by omega
    obtain rfl:k=hl:=by omega
    have HE2:=HE.out
    generalize pk (hs.take k)=T at *
    subst HE2
    go_wp2_with fail
    go_ret
    exact ⟨rfl,HB.out⟩
 ·rw [if_neg g1,if_neg g2,if_neg g3,if_neg g4]
  have q1:(g==1)=false:=by simpa using g1
  have q2:(g==2)=false:=by simpa using g2
  have q3:(g==3)=false:=by simpa using g3
  have q4:(g==4)=false:=by simpa using g4
  go_enter Tryz.func60,Tryz.ntmps60
  go_wp2_with fail
  go_ret
  exact ⟨rfl,HB0.out⟩
end WinR
namespace ClampR
def clamp (n low high:Int):Int:=if n<low then low else if high<n then high else n
theorem impl_any (n low high:Int) (w:World) :
 Calls Tryz.prog 179 #[.int .i64 n,.int .i64 low,.int .i64 high] w fun e w'=>e=.returned (.int .i64 (clamp n low high))∧w'=w:=by
 unfold clamp
 by_cases h1:n<low
 ·rw [if_pos h1]
  go_enter Tryz.func179,Tryz.ntmps179
  go_wp2
  go_ret
  exact ⟨rfl,rfl⟩
 ·rw [if_neg h1]
  by_cases h2:high<n
  all_goals
   simp only [h2,if_true,if_false]
   go_enter Tryz.func179,Tryz.ntmps179
   go_wp2
   go_ret
   exact ⟨rfl,rfl⟩
end ClampR
end Go.Proofs.YtmalfhhkjdkadaaGreatDoor
namespace Go.Proofs.YtmalfhhkjdkadaaGreatDoor
open Go.RowKit
set_option linter.unusedVariables false
namespace CatR
open ClampR (clamp)
def mn (a b:Int):Int:=if a<b then a else b
def mx (a b:Int):Int:=if a<b then b else a
def amt (m:Me) (u:Int):Int:=mx (u-m.f) 0
def part (ts:List Ti) (n:Int) (i:Nat):Int:=clamp n (tA ts i) (tU ts i)-tA ts i
def ps (ts:List Ti) (n:Int):Nat→Int
 | 0=>0
 | k+1=>ps ts n k+part ts n k*tP ts k
def wc (ts:List Ti) (n:Int):Int:=match ts.find? (fun t=>decide (n≤t.u)) with
 | some t=>n*t.p
 | none=>0
def bs (m:Me) (u:Int):Int:=bif m.wh then wc m.ts (amt m u) else ps m.ts (amt m u) m.ts.length
def rt (m:Me) (u:Int):Int:=if 0<u then mx (bs m u) m.l else bs m u
def ltB:Int:=1000000000000
theorem part_bd {ts:List Ti} (h:TRight ts) {n:Int} (hn:0≤n) (i:Nat) (hi:i<ts.length):0≤part ts n i∧part ts n i≤1000000000000∧part ts n i=mn n (tU ts i)-mn n (tA ts i):=by
 have h1:=h.upto i hi
 have h2:=(h.2.2.1 i hi).1
 have h3:=(h.2.2.1.rise i (by omega)).1
 unfold part clamp mn
 split<;>(try split)<;>(try split)<;>(try split)<;>omega
theorem pr_bd {ts:List Ti} (h:TRight ts) (i:Nat) (hi:i<ts.length):0≤tP ts i∧tP ts i≤1000000:=(h.2.2.1 i hi).2
theorem mul_bd {a p:Int} (ha:0≤a) (hp:0≤p∧p≤1000000):0≤a*p∧a*p≤1000000*a:=by
 refine ⟨Int.mul_nonneg ha hp.1,?_⟩
 have:=Int.mul_le_mul_of_nonneg_left hp.2 ha
 omega
theorem ps_bd {ts:List Ti} (h:TRight ts) {n:Int} (hn:0≤n):∀k,k≤ts.length→0≤ps ts n k∧ps ts n k≤1000000*mn n (tA ts k)
 | 0,_=>by simp only [ps,tA];unfold mn;split<;>omega
 | k+1,hk=>by
  have h1:=ps_bd h hn k (by omega)
  have h2:=part_bd h hn k (by omega)
  have h3:=mul_bd h2.1 (pr_bd h k (by omega))
  have e:tA ts (k+1)=tU ts k:=rfl
  simp only [ps]
  rw [e]
  omega
theorem ps_mono {ts:List Ti} (h:TRight ts) {n:Int} (hn:0≤n):∀k j,k≤ts.length→j≤k→ps ts n j≤ps ts n k
 | 0,j,_,hj=>by
  obtain rfl:j=0:=by omega
  exact Int.le_refl _
 | k+1,j,hk,hj=>by
  by_cases e:j=k+1
  ·subst e;exact Int.le_refl _
  ·have h1:=ps_mono h hn k j (by omega) (by omega)
   have h2:=part_bd h hn k (by omega)
   have h3:=mul_bd h2.1 (pr_bd h k (by omega))
   simp only [ps]
   omega
theorem ps_all {ts:List Ti} (h:TRight ts) {n:Int} (hn:0≤n∧n≤1000000000000) (k:Nat) (hk:k≤ts.length):0≤ps ts n k∧ps ts n k≤1000000000000000000:=by
 have:=ps_bd h hn.1 k hk
 have e:mn n (tA ts k)≤1000000000000:=by unfold mn;split<;>omega
 omega
def At (ts:List Ti) (n:Int) (k:Nat):Prop:=k<ts.length∧(∀i,i<k→tU ts i<n)∧n≤tU ts k
theorem wc_at {ts:List Ti} {n:Int}:∀{k:Nat},At ts n k→wc ts n=n*tP ts k:=by
 induction ts with
 | nil=>intro k h;exact absurd h.1 (by simp)
 | cons t ts ih =>
  intro k h
  obtain ⟨h1,h2,h3⟩:=h
  cases k with
  | zero =>
   have e:n≤t.u:=h3
   unfold wc
   rw [List.find?_cons_of_pos (by simpa using e)]
   rfl
  | succ k =>
   have e:t.u<n:=h2 0 (by omega)
   have:=ih (k:=k) ⟨by simpa using h1,fun i hi=>h2 (i+1) (by omega),h3⟩
   unfold wc at this ⊢
   rw [List.find?_cons_of_neg (by simp;omega),this]
   rfl
theorem wc_bd {ts:List Ti} (h:TRight ts) {n:Int} (hn:0≤n∧n≤1000000000000) {k:Nat} (hk:k<ts.length):0≤n*tP ts k∧n*tP ts k≤1000000000000000000:=by
 have:=mul_bd hn.1 (pr_bd h k hk)
 omega
theorem not_all {ts:List Ti} (h:TRight ts) {n:Int} (hn:n≤1000000000000) {k:Nat} (hk:k≤ts.length) (ha:∀i,i<k→tU ts i<n):k<ts.length:=by
 by_cases e:k<ts.length
 ·exact e
 ·obtain rfl:k=ts.length:=by omega
  obtain ⟨j,hj⟩:∃j,ts.length=j+1:=⟨ts.length-1,by have:=h.1;omega⟩
  have h1:=ha j (by omega)
  have h2:=h.2.2.2
  rw [hj] at h2
  have e:tA ts (j+1)=tU ts j:=rfl
  omega
theorem at_ex {ts:List Ti} (h:TRight ts) {n:Int} (hn:n≤1000000000000):∃k,At ts n k:=by
 have key:∀j,j≤ts.length→(∃k,At ts n k)∨∀i,i<j→tU ts i<n:=by
  intro j
  induction j with
  | zero=>intro _;exact .inr (fun i hi=>absurd hi (by omega))
  | succ j ih =>
   intro hj
   rcases ih (by omega) with h1|h1
   ·exact .inl h1
   ·by_cases e:tU ts j<n
    ·refine .inr (fun i hi=>?_)
     by_cases q:i=j
     ·subst q;exact e
     ·exact h1 i (by omega)
    ·exact .inl ⟨j,by omega,h1,by omega⟩
 rcases key ts.length (Nat.le_refl _) with h1|h1
 ·exact h1
 ·exact absurd (not_all h hn (Nat.le_refl _) h1) (by omega)
theorem amt_bd {m:Me} (hf:0≤m.f∧m.f≤1000000000) {u:Int} (hu:0≤u∧u≤1000000000000):0≤amt m u∧amt m u≤1000000000000:=by
 unfold amt mx
 split<;>omega
theorem bs_bd {m:Me} (h:MRight m) {u:Int} (hu:0≤u∧u≤1000000000000):0≤bs m u∧bs m u≤1000000000000000000:=by
 obtain ⟨_,_,hf,_,ht⟩:=h
 have ha:=amt_bd hf hu
 unfold bs
 cases m.wh
 ·exact ps_all ht ha _ (Nat.le_refl _)
 ·obtain ⟨k,hk⟩:=at_ex ht ha.2
  simp only [cond_true]
  rw [wc_at hk]
  exact wc_bd ht ha hk.1
theorem rt_bd {m:Me} (h:MRight m) {u:Int} (hu:0≤u∧u≤1000000000000):0≤rt m u∧rt m u≤1000000000000000000∧bs m u≤rt m u:=by
 have h1:=bs_bd h hu
 have h2:=h.2.2.2.1
 unfold rt mx
 split<;>(try split)<;>omega
def rO (m:Me) (u:Int):Int × Int:=if rt m u≤1000000000000000 then (rt m u,0) else (0,12)
def rateO (m:Me) (u:Int):Int × Int:=bif mB m&&decide (0≤u∧u≤1000000000000) then rO m u else (0,1)
theorem rB_iff {m:Me}:mB m=true↔MRight m:=by unfold mB;exact @decide_eq_true_iff _ (MRightDec m)
end CatR
end Go.Proofs.YtmalfhhkjdkadaaGreatDoor
