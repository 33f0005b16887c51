/-
  The program's reader: a number and a text read at its place, behind a fault nothing. The condition: the text has at most 8000 bytes.
-/
import Derived.Test.YtmilejcpdfhmmaaRdKit
import Derived.Deep.RegionWith
namespace Go.Proofs.Ytmilejcpdfhmmaa
open Go.ChangeShapes Go.WideShapes Go.ChangeAt Go.RowKit
set_option linter.unusedVariables false
namespace EvtR
open GetR NumsR
/-- The reader's block. -/
def RdB (g : Nat) (s : ByteArray) (p : Nat) (f : Value) (w : World) : Prop := g < w.heap.size ∧ w.cell? ⟨g, 0, none⟩ = some (.string s) ∧ w.cell? ⟨g, 1, none⟩ = some (.int .i64 p) ∧ w.cell? ⟨g, 2, none⟩ = some f ∧ w.frozen? ⟨g, 0, none⟩ = false ∧ w.frozen? ⟨g, 1, none⟩ = false ∧ w.frozen? ⟨g, 2, none⟩ = false
theorem RdB.below {g : Nat} {s : ByteArray} {p : Nat} {f : Value} {w w' : World} (h : RdB g s p f w) (hb : Below w.heap.size w w') : RdB g s p f w' := by
  obtain ⟨hl, c0, c1, c2, f0, f1, f2⟩ := h
  have c := fun o => hb.cell (p := ⟨g, o, none⟩) hl
  have z := fun o => hb.frozen (p := ⟨g, o, none⟩) hl
  exact ⟨by have := hb.size; omega, (c 0).trans c0, (c 1).trans c1, (c 2).trans c2, (z 0).trans f0, (z 1).trans f1, (z 2).trans f2⟩
theorem RdB.set {g : Nat} {s : ByteArray} {p : Nat} {f : Value} {w : World} (h : RdB g s p f w) (q : Nat) (f' : Value) : RdB g s q f' ((w.setCell ⟨g, 1, none⟩ (.int .i64 q)).setCell ⟨g, 2, none⟩ f') := by
  obtain ⟨hl, c0, c1, c2, f0, f1, f2⟩ := h
  exact ⟨by simpa using hl, by simp [go_sem, c0], by simp [go_sem, c1], by simp [go_sem, c2], by simp [go_sem, f0], by simp [go_sem, f1], by simp [go_sem, f2]⟩
set_option maxHeartbeats 4000000 in
theorem num_got (g : Nat) (s : ByteArray) (p q : Nat) (n : Int) (w : World) (hR : RdB g s p .nilIface w)
    (hr : ∀ w, Calls Try.prog 75 #[.string s, .int .i64 p] w fun e w' => e = .returned (.tuple #[.int .i64 n, .int .i64 (q : Nat), .nilIface]) ∧ Below w.heap.size w w') :
    Calls Try.prog 61 #[.pointer (some ⟨g, 0, none⟩)] w fun e w' => e = .returned (.int .i64 n) ∧ RdB g s q (.nilIface) w' ∧ w.grownBy w' (some g) := by
  have HR := hid_intro hR
  have HH := hid_intro hr
  obtain ⟨hl, c0, c1, c2, f0, f1, f2⟩ := hR
  clear hr
  go_enter Try.func61, Try.ntmps61
  go_wp2_with fail
  go_region_with (go_at_call 75; refine (HH.out _).mono ?_; rintro e w1 ⟨rfl, hb⟩; have HB := hid_intro hb; have HR1 := hid_intro (RdB.below (show RdB g s p .nilIface w.drew from HR.out) hb); obtain ⟨hl1, d0, d1, d2, e0, e1, e2⟩ := HR1.out; clear hb)
  all_goals (
    go_wp2_with fail
    go_ret
    exact ⟨rfl, HR1.out.set q _, gtrans (gtrans (undrew (rgrown HB.out _)) (rset _ g 1 _)) (rset _ g 2 _)⟩)
set_option maxHeartbeats 4000000 in
theorem num_bad (g : Nat) (s : ByteArray) (p q : Nat) (c : Int) (w : World) (hR : RdB g s p .nilIface w)
    (hr : ∀ w, Calls Try.prog 75 #[.string s, .int .i64 p] w fun e w' => e = .returned (.tuple #[.int .i64 0, .int .i64 (q : Nat), flt c]) ∧ Below w.heap.size w w') :
    Calls Try.prog 61 #[.pointer (some ⟨g, 0, none⟩)] w fun e w' => e = .returned (.int .i64 0) ∧ RdB g s q (flt c) w' ∧ w.grownBy w' (some g) := by
  unfold flt at *
  have HR := hid_intro hR
  have HH := hid_intro hr
  obtain ⟨hl, c0, c1, c2, f0, f1, f2⟩ := hR
  clear hr
  go_enter Try.func61, Try.ntmps61
  go_wp2_with fail
  go_region_with (go_at_call 75; refine (HH.out _).mono ?_; rintro e w1 ⟨rfl, hb⟩; have HB := hid_intro hb; have HR1 := hid_intro (RdB.below (show RdB g s p .nilIface w.drew from HR.out) hb); obtain ⟨hl1, d0, d1, d2, e0, e1, e2⟩ := HR1.out; clear hb)
  all_goals (
    go_wp2_with fail
    go_ret
    exact ⟨rfl, HR1.out.set q _, gtrans (gtrans (undrew (rgrown HB.out _)) (rset _ g 1 _)) (rset _ g 2 _)⟩)
theorem num_flt (g : Nat) (s : ByteArray) (p : Nat) (c : Int) (w : World) (hR : RdB g s p (flt c) w) :
    Calls Try.prog 61 #[.pointer (some ⟨g, 0, none⟩)] w fun e w' => e = .returned (.int .i64 0) ∧ w' = w := by
  unfold flt at hR
  obtain ⟨hl, c0, c1, c2, f0, f1, f2⟩ := hR
  go_enter Try.func61, Try.ntmps61
  go_wp2_with fail
  go_ret
  exact ⟨rfl, rfl⟩
set_option maxHeartbeats 4000000 in
theorem word_got (g : Nat) (s : ByteArray) (p q : Nat) (t : ByteArray) (w : World) (hR : RdB g s p .nilIface w)
    (hr : ∀ w, Calls Try.prog 76 #[.string s, .int .i64 p] w fun e w' => e = .returned (.tuple #[.string t, .int .i64 (q : Nat), .nilIface]) ∧ Below w.heap.size w w') :
    Calls Try.prog 62 #[.pointer (some ⟨g, 0, none⟩)] w fun e w' => e = .returned (.string t) ∧ RdB g s q (.nilIface) w' ∧ w.grownBy w' (some g) := by
  have HR := hid_intro hR
  have HH := hid_intro hr
  obtain ⟨hl, c0, c1, c2, f0, f1, f2⟩ := hR
  clear hr
  go_enter Try.func62, Try.ntmps62
  go_wp2_with fail
  go_region_with (go_at_call 76; refine (HH.out _).mono ?_; rintro e w1 ⟨rfl, hb⟩; have HB := hid_intro hb; have HR1 := hid_intro (RdB.below (show RdB g s p .nilIface w.drew from HR.out) hb); obtain ⟨hl1, d0, d1, d2, e0, e1, e2⟩ := HR1.out; clear hb)
  all_goals (
    go_wp2_with fail
    go_ret
    exact ⟨rfl, HR1.out.set q _, gtrans (gtrans (undrew (rgrown HB.out _)) (rset _ g 1 _)) (rset _ g 2 _)⟩)
set_option maxHeartbeats 4000000 in
theorem word_bad (g : Nat) (s : ByteArray) (p q : Nat) (c : Int) (w : World) (hR : RdB g s p .nilIface w)
    (hr : ∀ w, Calls Try.prog 76 #[.string s, .int .i64 p] w fun e w' => e = .returned (.tuple #[.string ⟨#[]⟩, .int .i64 (q : Nat), flt c]) ∧ Below w.heap.size w w') :
    Calls Try.prog 62 #[.pointer (some ⟨g, 0, none⟩)] w fun e w' => e = .returned (.string ⟨#[]⟩) ∧ RdB g s q (flt c) w' ∧ w.grownBy w' (some g) := by
  unfold flt at *
  have HR := hid_intro hR
  have HH := hid_intro hr
  obtain ⟨hl, c0, c1, c2, f0, f1, f2⟩ := hR
  clear hr
  go_enter Try.func62, Try.ntmps62
  go_wp2_with fail
  go_region_with (go_at_call 76; refine (HH.out _).mono ?_; rintro e w1 ⟨rfl, hb⟩; have HB := hid_intro hb; have HR1 := hid_intro (RdB.below (show RdB g s p .nilIface w.drew from HR.out) hb); obtain ⟨hl1, d0, d1, d2, e0, e1, e2⟩ := HR1.out; clear hb)
  all_goals (
    go_wp2_with fail
    go_ret
    exact ⟨rfl, HR1.out.set q _, gtrans (gtrans (undrew (rgrown HB.out _)) (rset _ g 1 _)) (rset _ g 2 _)⟩)
theorem word_flt (g : Nat) (s : ByteArray) (p : Nat) (c : Int) (w : World) (hR : RdB g s p (flt c) w) :
    Calls Try.prog 62 #[.pointer (some ⟨g, 0, none⟩)] w fun e w' => e = .returned (.string ⟨#[]⟩) ∧ w' = w := by
  unfold flt at hR
  obtain ⟨hl, c0, c1, c2, f0, f1, f2⟩ := hR
  go_enter Try.func62, Try.ntmps62
  go_wp2_with fail
  go_ret
  exact ⟨rfl, rfl⟩
/-- What a read leaves: the reader behind it, with or without a fault. -/
def After (g : Nat) (s : ByteArray) (o : Option Nat) (w : World) : Prop := match o with
  | some p => p ≤ 8000 ∧ RdB g s p .nilIface w
  | none => ∃ p c, RdB g s p (flt c) w
/-- A number read by the reader. -/
theorem rnum (g : Nat) (s : ByteArray) (o : Option Nat) (w : World) (hs : s.size ≤ 8000) (h : After g s o w) :
    Calls Try.prog 61 #[.pointer (some ⟨g, 0, none⟩)] w fun e w' => e = .returned (.int .i64 (((o.bind (numAt s)).map (·.1)).getD 0)) ∧ After g s ((o.bind (numAt s)).map (·.2)) w' ∧ w.grownBy w' (some g) := by
  cases o with
  | none =>
    obtain ⟨p, c, h⟩ := h
    exact (num_flt g s p c w h).mono fun e w' ⟨h1, h2⟩ => by subst h2; exact ⟨h1, ⟨p, c, h⟩, ⟨rfl, rfl, rfl, Nat.le_refl _, fun _ _ _ => rfl⟩⟩
  | some p =>
    rcases num_impl s p hs h.1 with ⟨n, q, hn, _, hq, hc⟩ | ⟨hn, c, hc⟩
    · refine (num_got g s p q n w h.2 hc).mono fun e w' ⟨h1, h2, h3⟩ => ?_
      simp only [Option.bind_some, hn]
      exact ⟨h1, ⟨hq, h2⟩, h3⟩
    · refine (num_bad g s p 0 c w h.2 hc).mono fun e w' ⟨h1, h2, h3⟩ => ?_
      simp only [Option.bind_some, hn]
      exact ⟨h1, ⟨0, c, h2⟩, h3⟩
/-- A text read by the reader. -/
theorem rword (g : Nat) (s : ByteArray) (o : Option Nat) (w : World) (hs : s.size ≤ 8000) (h : After g s o w) :
    Calls Try.prog 62 #[.pointer (some ⟨g, 0, none⟩)] w fun e w' => e = .returned (.string (((o.bind (txtAt s)).map (·.1)).getD ⟨#[]⟩)) ∧ After g s ((o.bind (txtAt s)).map (·.2)) w' ∧ w.grownBy w' (some g) := by
  cases o with
  | none =>
    obtain ⟨p, c, h⟩ := h
    exact (word_flt g s p c w h).mono fun e w' ⟨h1, h2⟩ => by subst h2; exact ⟨h1, ⟨p, c, h⟩, ⟨rfl, rfl, rfl, Nat.le_refl _, fun _ _ _ => rfl⟩⟩
  | some p =>
    rcases txt_impl s p hs h.1 with ⟨n, q, hn, _, hq, hc⟩ | ⟨hn, c, hc⟩
    · refine (word_got g s p q n w h.2 hc).mono fun e w' ⟨h1, h2, h3⟩ => ?_
      simp only [Option.bind_some, hn]
      exact ⟨h1, ⟨hq, h2⟩, h3⟩
    · refine (word_bad g s p 0 c w h.2 hc).mono fun e w' ⟨h1, h2, h3⟩ => ?_
      simp only [Option.bind_some, hn]
      exact ⟨h1, ⟨0, c, h2⟩, h3⟩
end EvtR
end Go.Proofs.Ytmilejcpdfhmmaa
