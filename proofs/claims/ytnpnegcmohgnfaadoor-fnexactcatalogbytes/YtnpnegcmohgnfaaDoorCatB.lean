/-
  The bytes of a meter and of a catalog, as parts that are joined. No condition.
-/
import Derived.Test.YtnpnegcmohgnfaaDoorMapM
import Derived.Test.YtnpnegcmohgnfaaDoorPutTxt
import Derived.Test.YtnpnegcmohgnfaaDoorCrOf
namespace Go.Proofs.YtnpnegcmohgnfaaDoor
open Go.RowKit
set_option linter.unusedVariables false
namespace CatR
open NumR (numB numB_size)
open JoinR (joinB jl)
def txB (t : ByteArray) : ByteArray := numB t.size ++ t
def fl (b : Bool) : Int := if b = true then 1 else 0
def tiP (t : Ti) : List ByteArray := [numB t.u, numB t.p]
def meH (m : Me) : List ByteArray := [txB m.n, numB m.g, numB (fl m.wh), numB m.f, numB m.l, numB m.ts.length]
def meP (m : Me) : List ByteArray := meH m ++ m.ts.flatMap tiP
def meBy (m : Me) : ByteArray := joinB (meP m)
def crP (x : Cr) : List ByteArray := [txB x.a, numB x.m]
def caP (c : Ca) : List ByteArray := (([numB c.ms.length] ++ c.ms.map meBy) ++ [numB c.cs.length]) ++ c.cs.flatMap crP
def caBy (c : Ca) : ByteArray := if caB c = true then joinB (caP c) else ⟨#[]⟩
theorem joinB_app (a b : List ByteArray) : joinB (a ++ b) = joinB a ++ joinB b := by
  apply ByteArray.ext
  simp [joinB]
theorem joinB_nil : joinB [] = ⟨#[]⟩ := rfl
theorem joinB_one (x : ByteArray) : joinB [x] = x := by
  apply ByteArray.ext
  simp [joinB]
theorem joinB_two (x y : ByteArray) : joinB [x, y] = x ++ y := by
  apply ByteArray.ext
  simp [joinB]
theorem jl_size (l : List ByteArray) : (jl l l.length).length = (joinB l).size := by
  rw [JoinR.jl_all]
  show _ = (List.toArray _).size
  rw [List.size_toArray]
theorem take_flat {α : Type} (l : List α) (f : α → List ByteArray) (d : α) (k : Nat) (h : k < l.length) : (l.take (k + 1)).flatMap f = (l.take k).flatMap f ++ f (l.getD k d) := by
  rw [List.take_add_one, List.getElem?_eq_getElem h, List.flatMap_append]
  simp [List.getD, h]
theorem take_map {α : Type} (l : List α) (f : α → ByteArray) (d : α) (k : Nat) (h : k < l.length) : (l.take (k + 1)).map f = (l.take k).map f ++ [f (l.getD k d)] := by
  rw [List.take_add_one, List.getElem?_eq_getElem h, List.map_append]
  simp [List.getD, h]
theorem join_size_le (K : Nat) : ∀ l : List ByteArray, (∀ x ∈ l, x.size ≤ K) → (joinB l).size ≤ l.length * K
  | [], _ => by show 0 ≤ _; exact Nat.zero_le _
  | x :: l, h => by
    have h1 := join_size_le K l (fun y hy => h y (List.mem_cons_of_mem _ hy))
    have h2 := h x (List.mem_cons_self ..)
    have e : joinB (x :: l) = x ++ joinB l := by
      have := joinB_app [x] l
      rw [joinB_one] at this
      exact this
    rw [e, ByteArray.size_append, List.length_cons, Nat.add_mul]
    omega
theorem num_le {n : Int} (h0 : 0 ≤ n) (h1 : n ≤ 1000000000000) : (numB n).size ≤ 40 := by
  have := numB_size (n := n) (by omega)
  omega
theorem txt_le {t : ByteArray} (h : t.size ≤ 20) : (txB t).size ≤ 40 := by
  unfold txB
  have := numB_size (n := (t.size : Int)) (by omega)
  rw [ByteArray.size_append]
  omega
theorem fl_bd (b : Bool) : 0 ≤ fl b ∧ fl b ≤ 1 := by cases b <;> decide
/-- What is known of a right meter, in numbers. -/
theorem mright_bd {m : Me} (h : MRight m) : (m.n.size ≤ 20 ∧ m.ts.length ≤ 5) ∧ (0 ≤ m.g ∧ m.g ≤ 4) ∧ (0 ≤ m.f ∧ m.f ≤ 1000000000) ∧ (0 ≤ m.l ∧ m.l ≤ 1000000000000) ∧ ∀ i, i < m.ts.length → (0 ≤ tU m.ts i ∧ tU m.ts i ≤ 1000000000000) ∧ 0 ≤ tP m.ts i ∧ tP m.ts i ≤ 1000000 := by
  obtain ⟨h1, h2, h3, h4, h5⟩ := h
  refine ⟨⟨(name_le h1).2, h5.2.1⟩, ⟨by omega, h2.2⟩, h3, h4, fun i hi => ?_⟩
  have a := h5.upto i hi
  have b := h5.2.2.1 i hi
  exact ⟨⟨by omega, a.2⟩, b.2⟩
theorem meH_size {m : Me} (h : MRight m) : ∀ x ∈ meH m, x.size ≤ 40 := by
  obtain ⟨⟨b0, b1⟩, b2, b3, b4, b5⟩ := mright_bd h
  have f := fl_bd m.wh
  intro x hx
  simp only [meH, List.mem_cons, List.not_mem_nil, or_false] at hx
  rcases hx with rfl | rfl | rfl | rfl | rfl | rfl
  · exact txt_le b0
  · exact num_le b2.1 (by omega)
  · exact num_le f.1 (by omega)
  · exact num_le b3.1 (by omega)
  · exact num_le b4.1 b4.2
  · exact num_le (by omega) (by omega)
theorem meT_size {m : Me} (h : MRight m) (k : Nat) : ∀ x ∈ (m.ts.take k).flatMap tiP, x.size ≤ 40 := by
  obtain ⟨_, _, _, _, b5⟩ := mright_bd h
  intro x hx
  rw [List.mem_flatMap] at hx
  obtain ⟨t, ht, hx⟩ := hx
  obtain ⟨i, hi, rfl⟩ := List.getElem_of_mem (List.mem_of_mem_take ht)
  have e : m.ts.getD i Ti.zero = m.ts[i] := by simp [List.getD, hi]
  obtain ⟨a, b⟩ := b5 i hi
  unfold tU at a
  unfold tP at b
  rw [e] at a b
  simp only [tiP, List.mem_cons, List.not_mem_nil, or_false] at hx
  rcases hx with rfl | rfl
  · exact num_le a.1 a.2
  · exact num_le b.1 (by omega)
theorem ti_len (l : List Ti) : (l.flatMap tiP).length = 2 * l.length := by
  induction l with
  | nil => rfl
  | cons t l ih => simp [tiP, ih]; omega
theorem cr_len (l : List Cr) : (l.flatMap crP).length = 2 * l.length := by
  induction l with
  | nil => rfl
  | cons t l ih => simp [crP, ih]; omega
theorem mePk_size {m : Me} (h : MRight m) (k : Nat) : (joinB (meH m ++ (m.ts.take k).flatMap tiP)).size ≤ 640 := by
  have h1 := join_size_le 40 (meH m ++ (m.ts.take k).flatMap tiP) (fun x hx => by
    rw [List.mem_append] at hx
    rcases hx with hx | hx
    · exact meH_size h x hx
    · exact meT_size h k x hx)
  rw [List.length_append, ti_len] at h1
  have h2 := (mright_bd h).1.2
  have h3 : (m.ts.take k).length ≤ 5 := by rw [List.length_take]; omega
  have h4 : (meH m).length = 6 := rfl
  rw [h4] at h1
  omega
theorem meBy_size {m : Me} (h : MRight m) : (meBy m).size ≤ 640 := by
  have := mePk_size h m.ts.length
  rw [List.take_of_length_le (Nat.le_refl _)] at this
  exact this
end CatR
end Go.Proofs.YtnpnegcmohgnfaaDoor
