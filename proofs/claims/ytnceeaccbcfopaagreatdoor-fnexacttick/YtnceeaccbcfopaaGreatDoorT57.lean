/-
  Catalogs and windows that a copy has made are kept by stores at blocks from a base on. No condition.
-/
import Derived.Test.YtnceeaccbcfopaaGreatDoorT56
namespace Go.Proofs.YtnceeaccbcfopaaGreatDoor
open Go.ChangeShapes Go.WideShapes Go.ChangeAt Go.RowKit
set_option linter.unusedVariables false
namespace EngR
open CatR ChG
open EvtR (Pt)
theorem ti_kq {base b o:Nat} {t:Ti} {w w':World} (h:TiAt w b o t) (hk:Kq base w w') (hb:base≤b) (hl:b<w.heap.size):TiAt w' b o t:=⟨(hk.cell hb hl _).trans h.1,(hk.cell hb hl _).trans h.2⟩
theorem tis_kq {base b off len:Nat} {ts:List Ti} {w w':World} (h:Tis (some ⟨b,off,none⟩) len ts w) (hk:Kq base w w') (hb:base≤b):Tis (some ⟨b,off,none⟩) len ts w':=by
 refine ⟨h.1,?_⟩
 rcases h.2 with h0|⟨b',off',e,hl,hc⟩
 ·exact .inl h0
 ·cases e
  exact .inr ⟨b,off,rfl,Nat.lt_of_lt_of_le hl hk.size,fun j hj=>ti_kq (hc j hj) hk hb hl⟩
theorem crs_kq {base b off len:Nat} {ts:List Cr} {w w':World} (h:Crs (some ⟨b,off,none⟩) len ts w) (hk:Kq base w w') (hb:base≤b):Crs (some ⟨b,off,none⟩) len ts w':=by
 refine ⟨h.1,?_⟩
 rcases h.2 with h0|⟨b',off',e,hl,hc⟩
 ·exact .inl h0
 ·cases e
  exact .inr ⟨b,off,rfl,Nat.lt_of_lt_of_le hl hk.size,fun j hj=>⟨(hk.cell hb hl _).trans (hc j hj).1,(hk.cell hb hl _).trans (hc j hj).2⟩⟩
theorem newca_kq {base:Nat} {v:Value} {c:Ca} {w w':World} (h:NewCa base v c w) (hk:Kq base w w'):NewCa base v c w':=by
 obtain ⟨g,bs,h0,h1,h2,h3,h4,h5,h6⟩:=h
 have hg:=h2.lo
 refine ⟨g,bs,h0,h1,⟨h2.lo,hk.pt h2.pt hg,h2.inc,fun i hi=>?_⟩,h3,h4,crs_kq h5 hk (by omega),hk.pt h6 (by omega)⟩
 obtain ⟨⟨c0,c1,c2,c3,c4,c5⟩,c6,c7⟩:=h2.cel i hi
 have hb:=(h2.inc i hi).1
 have f:=fun o=>hk.cell hg h2.pt.lt o
 exact ⟨⟨(f _).trans c0,(f _).trans c1,(f _).trans c2,(f _).trans c3,(f _).trans c4,(f _).trans c5⟩,tis_kq c6 hk (by omega),hk.pt c7 (by omega)⟩
theorem inn_kq {base g t t':Nat} {a:Option Addr} {n m:Nat} {w w':World} (h:WinR.Inn g t a n m w) (hk:Kq base w w') (hb:base≤g) (ht:t≤t'):WinR.Inn g t' a n m w':=h.imp id (fun ⟨g',e1,e2,e3,e4⟩=>⟨g',e1,e2,by omega,hk.pt e4 (by omega)⟩)
theorem wx_kq {base g t k:Nat} {ws:List WinR.Wd} {w w':World} (h:WinR.WX g t k ws w) (hg:g<w.heap.size) (hk:Kq base w w') (hb:base≤g):WinR.WX g t k ws w':=fun j hj=>by
 obtain ⟨ta,tc,ha,hc,c6,c7,n1,n2⟩:=h j hj
 exact ⟨ta,tc,ha,hc,(hk.cell hb hg _).trans c6,(hk.cell hb hg _).trans c7,inn_kq n1 hk hb (Nat.le_refl _),inn_kq n2 hk hb (Nat.le_refl _)⟩
theorem ww_kq {base g k:Nat} {ws:List WinR.Wd} {w w':World} (h:WinR.WW g k ws w) (hg:g<w.heap.size) (hk:Kq base w w') (hb:base≤g):WinR.WW g k ws w':=by
 intro j hj
 obtain ⟨ta,tc,ha,hc,c0,c1,c2,c3,c4,c5,c6,c7,hT,hH,n1,n2⟩:=h j hj
 have f:=fun o=>hk.cell hb hg o
 exact ⟨ta,tc,ha,hc,(f _).trans c0,(f _).trans c1,(f _).trans c2,(f _).trans c3,(f _).trans c4,(f _).trans c5,(f _).trans c6,(f _).trans c7,rws_kq hT hk (n1.imp id (fun ⟨g',e1,e2,_⟩ b off e=>by rw [e1] at e;simp at e;omega)),rws_kq hH hk (n2.imp id (fun ⟨g',e1,e2,_⟩ b off e=>by rw [e1] at e;simp at e;omega)),inn_kq n1 hk hb hk.size,inn_kq n2 hk hb hk.size⟩
end EngR
end Go.Proofs.YtnceeaccbcfopaaGreatDoor
