/-
  joinTexts: called with a list of texts (at least one) it hands back the texts one behind the other, in new memory; nothing that was there is written. The condition: they have together at most 2^40 bytes, and the list at most 1000 texts.
-/
import Derived.Test.YtpmimpenmphloaaDoorKit
import Derived.Laws.CopyOwn
import Derived.Lib.BufferRead
namespace Go.Proofs.YtpmimpenmphloaaDoor
open Go.ChangeShapes Go.WideShapes Go.ChangeAt Go.RowKit
set_option linter.unusedVariables false
theorem hid_intro {p : Prop} (h : p) : Hid p := h
namespace JoinR
def jl (parts : List ByteArray) (k : Nat) : List UInt8 := (parts.take k).flatMap (fun p => p.data.toList)
def joinB (parts : List ByteArray) : ByteArray := ⟨(parts.flatMap (fun p => p.data.toList)).toArray⟩
theorem jl_zero (parts : List ByteArray) : jl parts 0 = [] := rfl
theorem jl_succ (parts : List ByteArray) (k : Nat) (h : k < parts.length) : jl parts (k + 1) = jl parts k ++ (parts[k]).data.toList := by
  unfold jl; rw [List.take_succ_eq_append_getElem h, List.flatMap_append]; simp only [List.flatMap_cons, List.flatMap_nil, List.append_nil]
theorem jl_all (parts : List ByteArray) : jl parts parts.length = parts.flatMap (fun p => p.data.toList) := by
  unfold jl; rw [List.take_of_length_le (Nat.le_refl _)]
theorem jl_le (parts : List ByteArray) (k : Nat) : (jl parts k).length ≤ (jl parts parts.length).length := by
  rw [jl_all]; unfold jl
  conv => rhs; rw [← List.take_append_drop k parts, List.flatMap_append, List.length_append]
  omega
theorem jl_len (parts : List ByteArray) (k : Nat) (h : k < parts.length) : (jl parts (k + 1)).length = (jl parts k).length + (parts[k]).size := by
  rw [jl_succ parts k h, List.length_append]; rfl

/-- 'copy(dst, s)', s a text: the run, and what it leaves of the row. -/
theorem copy_text_run {P : Program} {w : World} (dT sT ty : TypeId) (elem : TypeId) (hu : P.underlying dT = some (.slice elem)) (hsz : (P.info? elem).map (·.size) = some 1)
    (dp : Option Addr) (dLen dCap : Nat) (str : ByteArray)
    (g off : Nat) (cur : List Value) (t : TypeId) (hg : w.heap[g]? = some (.cells cur.toArray t (0, 0))) (hle : str.size ≤ dLen)
    (hpos : 0 < str.size → dp = some ⟨g, off, none⟩) (hfit : off + str.size ≤ cur.length) (B : Nat) (w0 : World) (hb : Below B w0 w) (hBg : B ≤ g) :
    ∃ w', (Builtin.copy_ #[dT, sT] ty #[.slice dp dLen dCap, .string str]).run P w = .ok (.int .i64 str.size) w' ∧ Hid (w'.heap[g]? = some (.cells (splice cur off (Go.Lib.byteCells str.data.toList)).toArray t (0, 0))) ∧ Below B w0 w' := by
  have hlen : (Go.Lib.byteCells str.data.toList).length = str.size := by rw [Go.Lib.byteCells_length]; rfl
  by_cases h0 : str.size = 0
  · have hrun := Go.Lib.run_copy_empty_string (P := P) w dT sT ty elem dp dLen dCap str hu (by cases hq : P.info? elem <;> simp [hq] at hsz ⊢) h0
    have hnil : Go.Lib.byteCells str.data.toList = [] := List.eq_nil_of_length_eq_zero (by omega)
    refine ⟨w, by rw [hrun, h0]; rfl, show _ = _ from ?_, hb⟩
    rw [hnil]
    simpa [splice] using hg
  · have hd' := hpos (by omega)
    subst hd'
    have hrun := Go.Lib.run_copy_row_string (P := P) w dT sT ty elem g off dLen dCap str cur.toArray t hu hsz hg hle (by simpa using hfit)
    refine ⟨_, hrun, show _ = _ from ?_, below_setRow hb hBg _⟩
    have := setRow_heap w g cur.toArray (List.take off cur ++ Go.Lib.byteCells str.data.toList ++ List.drop (off + str.size) cur).toArray t (0, 0) hg
    simpa [splice, hlen] using this

theorem splice_next (pre cs rest : List Value) (h : cs.length ≤ rest.length) : splice (pre ++ rest) pre.length cs = (pre ++ cs) ++ rest.drop cs.length := by
  unfold splice
  simp [List.drop_append]

theorem row_of_full {w : World} {base e g n : Nat} {xs : List Value} (h : w.ownsRow base e 1 (.slice (some ⟨g, 0, none⟩) n n) n xs) :
    ∃ rest : List Value, w.heap[g]? = some (.cells rest.toArray e (0, 0)) ∧ rest.length = n := by
  rcases h.2 with ⟨h1, _⟩ | ⟨g', cap, cur, h1, _, hg, _, _, hs, _⟩
  · simp at h1
  · simp at h1
    obtain ⟨rfl, rfl⟩ := h1
    exact ⟨cur.toList, by simpa using hg, by simpa using hs⟩

theorem Trydinfo5 : (Tryd.prog.info? 5).map (fun i => (i.zero, i.size, i.bytes)) = some (some (.int .u8 0), 1, 1) := by kernel_rfl
theorem Trydsize5 : (Tryd.prog.info? 5).map (·.size) = some 1 := by kernel_rfl

set_option maxHeartbeats 2000000 in
theorem join_len (parts : List ByteArray) (b cap : Nat) (w : World) (hcap : parts.length ≤ cap) (hcm : parts.length ≤ 1000) (hb : b < w.heap.size)
    (hc : ∀ k (h : k < parts.length), w.cell? ⟨b, k, none⟩ = some (.string parts[k])) (htot : (jl parts parts.length).length ≤ 1099511627776) :
    Calls Tryd.prog 17 #[.slice (some ⟨b, 0, none⟩) parts.length cap] w fun e w' => e = .returned (.string (joinB parts)) ∧ Below w.heap.size w w' := by
  obtain ⟨i0, hi, hz0, hz1, hz2⟩ := info_parts Trydinfo5
  go_enter Tryd.func17, Tryd.ntmps17
  go_wp2
  go_loop [3, 12] (fun x i => ∃ k : Nat, k ≤ parts.length ∧ i = .int .i64 k ∧ x = .int .i64 ((jl parts k).length : Nat)) (fun _ i => parts.length - (intOf i).toNat)
  case atStart => exact ⟨0, by omega, rfl, rfl⟩
  case round =>
    obtain ⟨k, hk, rfl, rfl⟩ := hrel
    by_cases hlt : k < parts.length
    · have hcell := hc k hlt
      have h1 := jl_le parts (k + 1)
      have h2 := jl_len parts k hlt
      have HL : Hid ((jl parts (k + 1)).length = (jl parts k).length + (parts[k]).size) := h2
      have hbd : (jl parts k).length + (parts[k]).size ≤ 1099511627776 := by omega
      clear h1 h2
      go_wp2
      go_round
      case rel => exact ⟨k + 1, by omega, by go_num, by rw [HL.out]; go_num⟩
      case measure => simp [intOf]; omega
    · have : k = parts.length := by omega
      subst this
      obtain ⟨n, hn⟩ : ∃ n, n = (jl parts parts.length).length := ⟨_, rfl⟩
      rw [← hn] at htot ⊢
      have HN : Hid (n = (jl parts parts.length).length) := hn
      clear hn
      go_wp2_with (at_make; refine wpList_make_full _ rfl _ _ 54 rfl w.heap.size 5 i0 (.int .u8 0) 1 Tryd.underlying54 hi hz0 hz1 .i64 .i64 _ _ n rfl rfl rfl rfl ?b2 ?b3 ?b4 ?_)
      case b2 => omega
      case b3 => unfold maxLen; omega
      intro wm hown hgrow
      obtain ⟨rest0, hrow0, hrl0⟩ := row_of_full hown
      have hbm : Below w.heap.size w wm := (Below.refl _ _).grown hgrow (Nat.le_refl _) (fun _ h => by cases h)
      have HR0 : Hid (wm.heap[w.heap.size]? = some (.cells rest0.toArray 5 (0, 0))) := hrow0
      clear hown hgrow hrow0
      obtain ⟨G, hG⟩ : ∃ G, G = w.heap.size := ⟨_, rfl⟩
      have HG : Hid (G = w.heap.size) := hG
      rw [← hG] at hbm HR0 hb ⊢
      clear hG
      go_wp2
      go_loopw [7, 25] (fun x i wr => ∃ k : Nat, k ≤ parts.length ∧ i = .int .i64 k ∧ x = .int .i64 ((jl parts k).length : Nat) ∧ Below G w wr ∧ ∃ rest : List Value, Hid (wr.heap[G]? = some (.cells (Go.Lib.byteCells (jl parts k) ++ rest).toArray 5 (0, 0))) ∧ rest.length = n - (jl parts k).length) (fun _ i _ => parts.length - (intOf i).toNat)
      case atStart => exact ⟨0, by omega, rfl, rfl, hbm, rest0, HR0, by rw [hrl0]; rfl⟩
      case round =>
        obtain ⟨k, hk, rfl, rfl, hbr, rest, HR, hrl⟩ := hrel
        by_cases hlt : k < parts.length
        · have hcell := hc k hlt
          have hcr : wr.cell? ⟨b, k, none⟩ = some (.string parts[k]) := (hbr.cell (p := ⟨b, k, none⟩) hb).trans hcell
          have h1 := jl_le parts (k + 1)
          have h2 := jl_len parts k hlt
          rw [← HN.out] at h1
          have HL : Hid ((jl parts (k + 1)).length = (jl parts k).length + (parts[k]).size) := h2
          have HB : Hid ((jl parts k).length + (parts[k]).size ≤ n) := hid_intro (by omega)
          have HC : Hid (jl parts (k + 1) = jl parts k ++ (parts[k]).data.toList) := jl_succ parts k hlt
          clear h1 h2 hcell
          obtain ⟨L, hL⟩ : ∃ L, L = jl parts k := ⟨_, rfl⟩
          rw [← hL] at HL HB HC HR hrl ⊢
          clear hL
          obtain ⟨m, hm⟩ : ∃ m, m = L.length := ⟨_, rfl⟩
          rw [← hm] at HL HB hrl ⊢
          have HM : Hid (m = L.length) := hm
          clear hm
          obtain ⟨q, hq⟩ : ∃ q, q = parts[k] := ⟨_, rfl⟩
          rw [← hq] at HL HB HC hcr
          clear hq
          have hqn : m + q.size ≤ n := HB.out
          have hfin : ∀ w', Hid (w'.heap[G]? = some (.cells (splice (Go.Lib.byteCells L ++ rest) m (Go.Lib.byteCells q.data.toList)).toArray 5 (0, 0))) → Below G w w' →
              ∃ k' : Nat, k' ≤ parts.length ∧ Value.int .i64 ((k : Int) + 1) = .int .i64 k' ∧ Value.int .i64 ((m : Int) + q.size) = .int .i64 ((jl parts k').length : Nat) ∧ Below G w w' ∧ ∃ rest : List Value, Hid (w'.heap[G]? = some (.cells (Go.Lib.byteCells (jl parts k') ++ rest).toArray 5 (0, 0))) ∧ rest.length = n - (jl parts k').length := by
            intro w' hh hbb
            refine ⟨k + 1, by omega, by go_num, by rw [HL.out]; go_num, hbb, rest.drop (Go.Lib.byteCells q.data.toList).length, ?_, ?_⟩
            · have hlen : (Go.Lib.byteCells L).length = m := by rw [Go.Lib.byteCells_length]; exact HM.out.symm
              have hq2 : (Go.Lib.byteCells q.data.toList).length = q.size := Go.Lib.byteCells_length _
              have := splice_next (Go.Lib.byteCells L) (Go.Lib.byteCells q.data.toList) rest (by rw [hq2, hrl]; omega)
              rw [hlen] at this
              rw [HC.out, Go.Lib.byteCells_append, ← this]
              exact hh
            · have hq2 : (Go.Lib.byteCells q.data.toList).length = q.size := Go.Lib.byteCells_length _
              rw [List.length_drop, hq2, hrl, HL.out]; omega
          have HF := hid_intro hfin
          have hcur : (Go.Lib.byteCells L ++ rest).length = n := by rw [List.length_append, Go.Lib.byteCells_length, ← HM.out, hrl]; omega
          clear hfin HL HC HB
          by_cases hmn : m < n
          · obtain ⟨w4, hrun, hg4, hb4⟩ := copy_text_run (P := Tryd.prog) 54 9 3 5 Tryd.underlying54 Trydsize5 (some ⟨G, m, none⟩) (n - m) (n - m) q G m (Go.Lib.byteCells L ++ rest) 5 HR.out (by omega) (fun _ => rfl) (by omega) G w hbr (Nat.le_refl _)
            clear HR
            go_wp2
            go_roundw
            case rel => exact HF.out _ hg4 hb4
            case measure => simp [intOf]; omega
          · obtain rfl : m = n := by omega
            have hq0 : q.size = 0 := by omega
            obtain ⟨w4, hrun, hg4, hb4⟩ := copy_text_run (P := Tryd.prog) 54 9 3 5 Tryd.underlying54 Trydsize5 (some ⟨G, 0, none⟩) 0 0 q G m (Go.Lib.byteCells L ++ rest) 5 HR.out (by omega) (fun _ => by omega) (by omega) G w hbr (Nat.le_refl _)
            rw [hq0] at hrun
            clear HR
            go_wp2
            go_roundw
            case rel => have := HF.out _ hg4 hb4; simp only [hq0] at this; simpa using this
            case measure => simp [intOf]; omega
        · have : k = parts.length := by omega
          subst this
          have hall : (jl parts parts.length).length = n := HN.out.symm
          obtain rfl : rest = [] := List.eq_nil_of_length_eq_zero (by rw [hrl, hall]; omega)
          have hback := fun dst (hd : Tryd.prog.underlying dst = some .string) => run_convert_bytes_back (P := Tryd.prog) wr 54 dst 5 ⟨G, 0, none⟩ n (jl parts parts.length) Tryd.underlying54 Tryd.underlying5 hd (Go.Lib.bytes_of_row HR.out (by simp; rw [List.take_of_length_le (by simp [Go.Lib.byteCells])]))
          have hb9 := hback 9 Tryd.underlying9
          rw [hall] at hb9
          clear hback hall HR
          go_wp2
          go_ret
          refine ⟨ret_str ?_, HG.out ▸ hbr⟩
          unfold joinB
          rw [← jl_all]
theorem join_any (parts : List ByteArray) (b cap : Nat) (w : World) (hcap : parts.length ≤ cap) (hcm : cap ≤ 1000) (hb : b < w.heap.size)
    (hc : ∀ k (h : k < parts.length), w.cell? ⟨b, k, none⟩ = some (.string parts[k])) (htot : (jl parts parts.length).length ≤ 1099511627776) :
    Calls Tryd.prog 17 #[.slice (some ⟨b, 0, none⟩) parts.length cap] w fun e w' => e = .returned (.string (joinB parts)) ∧ Below w.heap.size w w' :=
  join_len parts b cap w hcap (by omega) hb hc htot
theorem cell_new {w : World} {C : Array Value} {T : TypeId} {k : Nat} {v : Value} (h : C[k]? = some v) : (w.alloc (.cells C T)).cell? ⟨w.heap.size, k, none⟩ = some v := by
  rw [World.cell?_alloc_mark]; exact h
theorem join1 (a : ByteArray) (w : World) (ht : a.size ≤ 1099511627776) :
    Calls Tryd.prog 17 #[.slice (some ⟨w.heap.size, 0, none⟩) 1 1] (w.alloc (.cells #[.string a] 9)) fun e w' => e = .returned (.string a) ∧ Below w.heap.size w w' := by
  refine (join_any [a] w.heap.size 1 _ (Nat.le_refl _) (by omega) (by simp) (fun k h => cell_new (by match k, h with | 0, _ => rfl)) (by simp [jl]; exact ht)).mono ?_
  rintro e w' ⟨rfl, hb⟩
  refine ⟨ret_str (by unfold joinB; simp), ((Below.refl _ _).alloc (Nat.le_refl _) _).trans (hb.mono (by simp))⟩
theorem join2 (a b : ByteArray) (w : World) (ht : a.size + b.size ≤ 1099511627776) :
    Calls Tryd.prog 17 #[.slice (some ⟨w.heap.size, 0, none⟩) 2 2] (w.alloc (.cells #[.string a, .string b] 9)) fun e w' => e = .returned (.string (a ++ b)) ∧ Below w.heap.size w w' := by
  refine (join_any [a, b] w.heap.size 2 _ (Nat.le_refl _) (by omega) (by simp) (fun k h => cell_new (by match k, h with | 0, _ => rfl | 1, _ => rfl)) (by simp [jl]; exact ht)).mono ?_
  rintro e w' ⟨rfl, hb⟩
  refine ⟨ret_str (ByteArray.ext (by unfold joinB; simp)), ((Below.refl _ _).alloc (Nat.le_refl _) _).trans (hb.mono (by simp))⟩
end JoinR
end Go.Proofs.YtpmimpenmphloaaDoor
