/-
  What is put is got: right events, at most 20, come back from their batch's bytes. 
-/
import Derived.Test.YtmilejcpdfhmmaaBatEq
namespace Go.Proofs.Ytmilejcpdfhmmaa
open Go.ChangeShapes Go.WideShapes Go.ChangeAt Go.RowKit
set_option linter.unusedVariables false
namespace EvtR
open GetR NumsR NumR
theorem numAt_pN {s : ByteArray} {p : Nat} {n : Int} {q : Nat} (h : numAt s p = some (n, q)) : rN s (some p) = n ∧ pN s (some p) = some q := by
  unfold rN pN
  simp [h]
theorem cat_cons (e : E) (l : List E) : catT ⟨#[]⟩ (e :: l) = e.b ++ catT ⟨#[]⟩ l := by
  rw [← catT_app]
  unfold catT
  simp only [List.foldl_cons]
  congr 1
  apply ByteArray.ext
  simp
theorem evsS_put (s : ByteArray) : ∀ (l : List E) (p : Nat), l.all E.ok = true → p + (catT ⟨#[]⟩ l).size ≤ s.size → s.extract p (p + (catT ⟨#[]⟩ l).size) = catT ⟨#[]⟩ l → evsS s (some p) l.length = (l, some (p + (catT ⟨#[]⟩ l).size))
  | [], p, _, _, _ => by simp [evsS, catT]; rfl
  | e :: l, p, ha, hs, h => by
    rw [cat_cons, ByteArray.size_append] at hs h ⊢
    obtain ⟨h1, h2⟩ := cut_split hs h
    simp only [List.all_cons, Bool.and_eq_true] at ha
    obtain ⟨r1, r2⟩ := evAt_pE (evAt_put ha.1 (by omega) h1)
    have ih := evsS_put s l (p + e.b.size) ha.2 (by omega) h2
    rw [List.length_cons, evsS, r1, r2, ih]
    simp [Nat.add_assoc]
theorem bat_back (l : List E) (hl : l.length ≤ 20) (ha : l.all E.ok = true) : batS (batT l) = some l := by
  have hb := bat_of l.length l rfl hl ha
  have hz : (batT l).size = (numB l.length).size + (catT ⟨#[]⟩ l).size := by rw [hb, ByteArray.size_append]
  have hw : (batT l).extract 0 (0 + ((numB l.length).size + (catT ⟨#[]⟩ l).size)) = numB l.length ++ catT ⟨#[]⟩ l := by
    rw [Nat.zero_add, ← hz, cut_all, hb]
  obtain ⟨h1, h2⟩ := cut_split (by omega) hw
  obtain ⟨r1, r2⟩ := numAt_pN (numAt_put (n := (l.length : Int)) ⟨by omega, by omega⟩ (by omega) h1)
  have hS := evsS_put (batT l) l _ ha (by omega) h2
  have hp : 0 < (numB l.length).size := by
    have := numAt_back (numAt_put (n := (l.length : Int)) ⟨by omega, by omega⟩ (by omega) h1)
    omega
  unfold batS
  rw [r1, r2, if_pos ⟨by omega, by omega⟩, Int.toNat_natCast, hS, if_pos ⟨by simp, by omega, rfl⟩]
end EvtR
end Go.Proofs.Ytmilejcpdfhmmaa
