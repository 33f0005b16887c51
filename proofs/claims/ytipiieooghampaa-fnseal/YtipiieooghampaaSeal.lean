/-
  Seal: what the model and the program hand back is one function of the text: it, and the four bytes of its CRC behind it. The condition: the text has at most 7996 bytes.
-/
import Derived.Test.YtipiieooghampaaCrc
import Derived.Test.YtipiieooghampaaJoin
import Derived.Laws.BytesArg
namespace Go.Proofs.Ytipiieooghampaa
open Go.ChangeShapes Go.WideShapes Go.ChangeAt Go.RowKit
open Go.ChangeMaps (open_string shut_string)
set_option linter.unusedVariables false
namespace SealR
def four (n : Int) : ByteArray := strOfNums [n % 256, n / 256 % 256, n / 65536 % 256, n / 16777216]
theorem four_size (n : Int) : (four n).size = 4 := rfl
theorem conv4 (n : Int) (w : World) (T : TypeId) :
    (convert 22 9 (.slice (some ⟨w.heap.size, 0, none⟩) 4 4)).run Try.prog (w.alloc (.cells #[.int .u8 (n % 256), .int .u8 (n / 256 % 256), .int .u8 (n / 65536 % 256), .int .u8 (n / 16777216)] T)) =
      .ok (.string (four n)) (w.alloc (.cells #[.int .u8 (n % 256), .int .u8 (n / 256 % 256), .int .u8 (n / 65536 % 256), .int .u8 (n / 16777216)] T)) := by
  refine run_convert_bytes_arg _ 22 5 Try.underlying22 Try.underlying5 w.heap.size 0 4 4 [n % 256, n / 256 % 256, n / 65536 % 256, n / 16777216] rfl ?_ 9 Try.underlying9
  intro i hi
  rw [Nat.zero_add, World.cell?_alloc_mark]
  match i, hi with
  | 0, _ => rfl
  | 1, _ => rfl
  | 2, _ => rfl
  | 3, _ => rfl
theorem four_any (n : Int) (w : World) (hn : 0 ≤ n ∧ n ≤ 4294967295) :
    Calls Try.prog 19 #[.int .i64 n] w fun e w' => e = .returned (.string (four n)) ∧ Below w.heap.size w w' := by
  have hk := conv4 n w 5
  go_enter Try.func19, Try.ntmps19
  go_wp2
  go_ret
  exact ⟨rfl, (Below.refl _ _).alloc (Nat.le_refl _) _⟩
theorem sum_any (n : Int) (w : World) (hn : 0 ≤ n ∧ n ≤ 4294967295) :
    Calls Try.prog 18 #[.int .i64 n] w fun e w' => e = .returned (.string (four n)) ∧ Below w.heap.size w w' := by
  have hk := conv4 n w 48
  go_enter Try.func18, Try.ntmps18
  go_wp2
  refine wp_loop_rounds 5 ?_
  rw [rounds_succ]; go_wp2
  rw [rounds_succ]; go_wp2
  rw [rounds_succ]; go_wp2
  rw [rounds_succ]; go_wp2
  rw [rounds_succ]; go_wp2
  go_ret
  exact ⟨rfl, (Below.refl _ _).alloc (Nat.le_refl _) _⟩
def sealB (s : ByteArray) : ByteArray := s ++ four (CrcR.crcV 0 s)
theorem crcV_bd (c : Int) (s : ByteArray) : 0 ≤ CrcR.crcV c s ∧ CrcR.crcV c s ≤ 4294967295 := CrcR.xor_bd _ _
theorem spec_seal (s : ByteArray) (w : World) (hs : s.size ≤ 7996) :
    Calls Try.prog 6 #[.string s] w fun e w' => e = .returned (.string (sealB s)) ∧ Below w.heap.size w w' := by
  obtain ⟨n, hn⟩ : ∃ n, n = CrcR.crcV 0 s := ⟨_, rfl⟩
  have h1 := fun w => CrcR.spec_l01 0 s w (by omega) (by omega)
  have hbd := crcV_bd 0 s
  have HE : Hid (sealB s = s ++ four n) := by rw [hn]; rfl
  rw [← hn] at h1 hbd
  clear hn
  obtain ⟨f, hf⟩ : ∃ f, f = four n := ⟨_, rfl⟩
  have h2 := fun w => four_any n w hbd
  have hfs := four_size n
  rw [← hf] at h2 HE hfs
  clear hf
  go_enter Try.func6, Try.ntmps6
  go_wp2_with (first | (go_at_call 20; refine (h1 _).mono ?_; rintro e w' ⟨rfl, rfl⟩) | (go_at_call 19; refine (h2 _).mono ?_; rintro e w' ⟨rfl, hbel⟩))
  go_ret
  exact ⟨ret_str HE.out.symm, hbel⟩
theorem impl_seal (s : ByteArray) (w : World) (hs : s.size ≤ 7996) :
    Calls Try.prog 5 #[.string s] w fun e w' => e = .returned (.string (sealB s)) ∧ Below w.heap.size w w' := by
  obtain ⟨n, hn⟩ : ∃ n, n = CrcR.crcV 0 s := ⟨_, rfl⟩
  have h1 := fun w => CrcR.impl_crc s w (by omega)
  have hbd := crcV_bd 0 s
  have HE : Hid (sealB s = s ++ four n) := by rw [hn]; rfl
  rw [← hn] at h1 hbd
  clear hn
  obtain ⟨f, hf⟩ : ∃ f, f = four n := ⟨_, rfl⟩
  have h2 := fun w => sum_any n w hbd
  have hfs := four_size n
  rw [← hf] at h2 HE hfs
  clear hf
  go_enter Try.func5, Try.ntmps5
  go_wp2_with (first | (go_at_call 12; refine (h1 _).mono ?_; rintro e w' ⟨rfl, rfl⟩) | (go_at_call 18; refine (h2 _).mono ?_; rintro e w' ⟨rfl, hbel⟩) | (go_at_call 17; refine (JoinR.join2 s f _ (by omega)).mono ?_; rintro e w' ⟨rfl, hbel2⟩))
  go_ret
  exact ⟨ret_str HE.out.symm, hbel.trans (hbel2.mono hbel.size)⟩
theorem spec_seal_big (s : ByteArray) (w : World) (hs : 7996 < s.size) (hm : s.size ≤ 1048576) :
    Calls Try.prog 6 #[.string s] w fun e w' => e = .returned (.string ⟨#[]⟩) ∧ Below w.heap.size w w' := by
  go_enter Try.func6, Try.ntmps6
  go_wp2
  go_ret
  exact ⟨rfl, Below.refl _ _⟩
theorem impl_seal_big (s : ByteArray) (w : World) (hs : 7996 < s.size) (hm : s.size ≤ 1048576) :
    Calls Try.prog 5 #[.string s] w fun e w' => e = .returned (.string ⟨#[]⟩) ∧ Below w.heap.size w w' := by
  go_enter Try.func5, Try.ntmps5
  go_wp2
  go_ret
  exact ⟨rfl, Below.refl _ _⟩
end SealR
end Go.Proofs.Ytipiieooghampaa
