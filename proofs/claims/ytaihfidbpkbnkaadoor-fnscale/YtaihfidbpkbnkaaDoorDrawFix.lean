/-
  Drawn numbers, further: each lies within an int64; drawing writes the source's own block alone. The condition: the bytes are at most 1048576.
-/
import Derived.Test.YtaihfidbpkbnkaaDoorSome
namespace Go.Proofs.YtaihfidbpkbnkaaDoor
open Go.ChangeShapes Go.WideShapes Go.ChangeAt Go.RowKit
set_option linter.unusedVariables false
namespace DrawR
set_option maxRecDepth 100000 in
set_option maxHeartbeats 4000000 in
theorem dparts_any (ao : Option Addr) (len cap : Nat) (w : World) (hlen : len ≤ 1048576) (hB : Bytes ao len w) :
    Calls Tryd.prog 12 #[.slice ao len cap] w fun e w' => Draws3 e ∧ Below w.heap.size w w' := by
  have h1 := source_any ao len cap w hlen hB
  clear hB
  go_enter Tryd.func12, Tryd.ntmps12
  go_wp2_with fail
  refine h1.mono ?_
  rintro e w1 ⟨rfl, hS1, hb1⟩
  have HS1 := hid_intro hS1
  have HB1 := hid_intro hb1
  clear hS1 hb1 h1
  go_wp2_with fail
  refine (some_any ao len cap w.heap.size _ HS1.out).mono ?_
  rintro e w2 ⟨⟨a, rfl, hx⟩, hS, hg⟩
  have Ha := hid_intro hx
  have HS2 := hid_intro hS
  have HB2 := hid_intro (below_own HB1.out hg)
  clear hx hS hg
  go_wp2_with fail
  refine (n_any ao len cap w.heap.size 12 _ (by omega) HS2.out).mono ?_
  rintro e w3 ⟨b, rfl, hy0, hy1, hy2, hS, hg⟩
  have hy3 : b < 12 := hy2 (by omega)
  have Hb : Hid (I64 (1 + b)) := hid_intro (by unfold I64; omega)
  have eb : wrap64 (1 + b) = 1 + b := by unfold wrap64; omega
  have HS3 := hid_intro hS
  have HB3 := hid_intro (below_own HB2.out hg)
  clear hy0 hy1 hy2 hy3 hS hg
  go_wp2_with fail
  refine (one_any ao len cap w.heap.size 3 _ (by omega) HS3.out).mono ?_
  rintro e w4 ⟨⟨q, rfl⟩, hS, hg⟩
  have HS4 := hid_intro hS
  have HB4 := hid_intro (below_own HB3.out hg)
  clear hS hg
  cases q
  · go_wp2_with fail
    refine (n_any ao len cap w.heap.size 4 _ (by omega) HS4.out).mono ?_
    rintro e w5 ⟨m, rfl, hy0, hy1, hy2, hS, hg⟩
    have hy3 : m < 4 := hy2 (by omega)
    have Hm : Hid (I64 (m)) := hid_intro (by unfold I64; omega)
    have em : wrap64 (m) = m := by unfold wrap64; omega
    have HS5 := hid_intro hS
    have HB5 := hid_intro (below_own HB4.out hg)
    clear hy0 hy1 hy2 hy3 hS hg
    go_wp2
    refine bodyPost_ret (v := .tuple #[.int .i64 (a), .int .i64 (1 + b), .int .i64 (m)]) (by simp [results, Tryd.results12, go_sem]) rfl ⟨⟨a, 1 + b, m, rfl, Ha.out, Hb.out, Hm.out⟩, HB5.out⟩
  · go_wp2_with fail
    refine (some_any ao len cap w.heap.size _ HS4.out).mono ?_
    rintro e w5 ⟨⟨c, rfl, hx⟩, hS, hg⟩
    have Hc := hid_intro hx
    have HS5 := hid_intro hS
    have HB5 := hid_intro (below_own HB4.out hg)
    clear hx hS hg
    go_wp2_with fail
    refine (n_any ao len cap w.heap.size 4 _ (by omega) HS5.out).mono ?_
    rintro e w6 ⟨m, rfl, hy0, hy1, hy2, hS, hg⟩
    have hy3 : m < 4 := hy2 (by omega)
    have Hm : Hid (I64 (m)) := hid_intro (by unfold I64; omega)
    have em : wrap64 (m) = m := by unfold wrap64; omega
    have HS6 := hid_intro hS
    have HB6 := hid_intro (below_own HB5.out hg)
    clear hy0 hy1 hy2 hy3 hS hg
    go_wp2
    refine bodyPost_ret (v := .tuple #[.int .i64 (a), .int .i64 (c), .int .i64 (m)]) (by simp [results, Tryd.results12, go_sem]) rfl ⟨⟨a, c, m, rfl, Ha.out, Hc.out, Hm.out⟩, HB6.out⟩
set_option maxRecDepth 100000 in
set_option maxHeartbeats 4000000 in
theorem dtparts_any (ao : Option Addr) (len cap : Nat) (w : World) (hlen : len ≤ 1048576) (hB : Bytes ao len w) :
    Calls Tryd.prog 18 #[.slice ao len cap] w fun e w' => Draws4 e ∧ Below w.heap.size w w' := by
  have h1 := source_any ao len cap w hlen hB
  clear hB
  go_enter Tryd.func18, Tryd.ntmps18
  go_wp2_with fail
  refine h1.mono ?_
  rintro e w1 ⟨rfl, hS1, hb1⟩
  have HS1 := hid_intro hS1
  have HB1 := hid_intro hb1
  clear hS1 hb1 h1
  go_wp2_with fail
  refine (some_any ao len cap w.heap.size _ HS1.out).mono ?_
  rintro e w2 ⟨⟨a, rfl, hx⟩, hS, hg⟩
  have Ha := hid_intro hx
  have HS2 := hid_intro hS
  have HB2 := hid_intro (below_own HB1.out hg)
  clear hx hS hg
  go_wp2_with fail
  refine (some_any ao len cap w.heap.size _ HS2.out).mono ?_
  rintro e w3 ⟨⟨b, rfl, hx⟩, hS, hg⟩
  have Hb := hid_intro hx
  have HS3 := hid_intro hS
  have HB3 := hid_intro (below_own HB2.out hg)
  clear hx hS hg
  go_wp2_with fail
  refine (n_any ao len cap w.heap.size 900 _ (by omega) HS3.out).mono ?_
  rintro e w4 ⟨c, rfl, hy0, hy1, hy2, hS, hg⟩
  have hy3 : c < 900 := hy2 (by omega)
  have Hc : Hid (I64 (1 + c)) := hid_intro (by unfold I64; omega)
  have ec : wrap64 (1 + c) = 1 + c := by unfold wrap64; omega
  have HS4 := hid_intro hS
  have HB4 := hid_intro (below_own HB3.out hg)
  clear hy0 hy1 hy2 hy3 hS hg
  go_wp2_with fail
  refine (one_any ao len cap w.heap.size 3 _ (by omega) HS4.out).mono ?_
  rintro e w5 ⟨⟨q, rfl⟩, hS, hg⟩
  have HS5 := hid_intro hS
  have HB5 := hid_intro (below_own HB4.out hg)
  clear hS hg
  cases q
  · go_wp2_with fail
    refine (n_any ao len cap w.heap.size 4 _ (by omega) HS5.out).mono ?_
    rintro e w6 ⟨m, rfl, hy0, hy1, hy2, hS, hg⟩
    have hy3 : m < 4 := hy2 (by omega)
    have Hm : Hid (I64 (m)) := hid_intro (by unfold I64; omega)
    have em : wrap64 (m) = m := by unfold wrap64; omega
    have HS6 := hid_intro hS
    have HB6 := hid_intro (below_own HB5.out hg)
    clear hy0 hy1 hy2 hy3 hS hg
    go_wp2
    refine bodyPost_ret (v := .tuple #[.int .i64 (a), .int .i64 (b), .int .i64 (1 + c), .int .i64 (m)]) (by simp [results, Tryd.results18, go_sem]) rfl ⟨⟨a, b, 1 + c, m, rfl, Ha.out, Hb.out, Hc.out, Hm.out⟩, HB6.out⟩
  · go_wp2_with fail
    refine (some_any ao len cap w.heap.size _ HS5.out).mono ?_
    rintro e w6 ⟨⟨d, rfl, hx⟩, hS, hg⟩
    have Hd := hid_intro hx
    have HS6 := hid_intro hS
    have HB6 := hid_intro (below_own HB5.out hg)
    clear hx hS hg
    go_wp2_with fail
    refine (n_any ao len cap w.heap.size 4 _ (by omega) HS6.out).mono ?_
    rintro e w7 ⟨m, rfl, hy0, hy1, hy2, hS, hg⟩
    have hy3 : m < 4 := hy2 (by omega)
    have Hm : Hid (I64 (m)) := hid_intro (by unfold I64; omega)
    have em : wrap64 (m) = m := by unfold wrap64; omega
    have HS7 := hid_intro hS
    have HB7 := hid_intro (below_own HB6.out hg)
    clear hy0 hy1 hy2 hy3 hS hg
    go_wp2
    refine bodyPost_ret (v := .tuple #[.int .i64 (a), .int .i64 (b), .int .i64 (d), .int .i64 (m)]) (by simp [results, Tryd.results18, go_sem]) rfl ⟨⟨a, b, d, m, rfl, Ha.out, Hb.out, Hd.out, Hm.out⟩, HB7.out⟩
set_option maxRecDepth 100000 in
set_option maxHeartbeats 4000000 in
theorem droot_any (ao : Option Addr) (len cap : Nat) (w : World) (hlen : len ≤ 1048576) (hB : Bytes ao len w) :
    Calls Tryd.prog 20 #[.slice ao len cap] w fun e w' => Draws1 e ∧ Below w.heap.size w w' := by
  have h1 := source_any ao len cap w hlen hB
  clear hB
  go_enter Tryd.func20, Tryd.ntmps20
  go_wp2_with fail
  refine h1.mono ?_
  rintro e w1 ⟨rfl, hS1, hb1⟩
  have HS1 := hid_intro hS1
  have HB1 := hid_intro hb1
  clear hS1 hb1 h1
  go_wp2_with fail
  refine (some_any ao len cap w.heap.size _ HS1.out).mono ?_
  rintro e w2 ⟨⟨a, rfl, hx⟩, hS, hg⟩
  have Ha := hid_intro hx
  have HS2 := hid_intro hS
  have HB2 := hid_intro (below_own HB1.out hg)
  clear hx hS hg
  go_wp2
  go_ret
  exact ⟨⟨a, rfl, Ha.out⟩, HB2.out⟩
end DrawR
end Go.Proofs.YtaihfidbpkbnkaaDoor
