/- What the laws' eqToken and markText answer, and the specification's l02Marks. -/
import Derived.Test.YtdgiidlaafbgcaaDoorTI3
import Derived.Deep.RegionHeld3
import Derived.RangeFuncRecord
namespace Go.Proofs.YtdgiidlaafbgcaaDoor
open Go.RowKit
set_option linter.unusedVariables false
theorem eqTok (k1 k2 a1 a2 : Int) (s1 s2 : ByteArray) (w : World) (h1 : k1 = k2) (h2 : a1 = a2) (h3 : s1 = s2) :
    Calls Tryd.prog 16 #[.agg #[.int .i64 k1, .string s1, .int .i64 a1], .agg #[.int .i64 k2, .string s2, .int .i64 a2]] w fun e w' => e = .returned (.bool true) ∧ Below w.heap.size w w' := by
  subst h1; subst h2; subst h3
  go_enter Tryd.func16, Tryd.ntmps16
  go_wp2
  go_ret
  refine ⟨rfl, ?_⟩
  repeat first | exact brf _ | refine bdr ?_ | refine bal ?_ _
set_option maxRecDepth 100000 in
set_option maxHeartbeats 400000 in
theorem sMarks (w : World) :
    Calls Tryd.prog 9 #[] w fun e w' => e = .returned (.slice (some ⟨w.heap.size, 0, none⟩) 36 36) ∧ Below w.heap.size w w' ∧ w'.rangeAt w.heap.size 0 mksV := by
  go_enter Tryd.func9, Tryd.ntmps9
  go_wp2
  go_ret
  refine ⟨rfl, bal (brf w) _, ?_⟩
  have := World.rangeAt_of_block (w := w.alloc (.cells mksV.toArray 9)) (b := w.heap.size) (C := mksV.toArray) (t := 9) (fr := (0, 0)) (World.alloc_heap_new w _) 0 36
  exact this
theorem conv1 (w : World) (n : Nat) (hn : n < 256) : (convert 44 9 (.slice (some ⟨w.heap.size, 0, none⟩) 1 1)).run Tryd.prog (w.alloc (.cells #[.int .u8 (n : Int)] 5)) = .ok (.string (S [UInt8.ofNat n])) (w.alloc (.cells #[.int .u8 (n : Int)] 5)) := by
  refine run_convert_bytes_back (P := Tryd.prog) _ 44 9 5 ⟨w.heap.size, 0, none⟩ 1 [UInt8.ofNat n] (by kernel_rfl) (by kernel_rfl) (by kernel_rfl) ?_
  intro i hi
  obtain rfl : i = 0 := by simpa using hi
  have : ((UInt8.ofNat n).toNat : Int) = (n : Int) := by rw [UInt8.toNat_ofNat']; omega
  rw [Addr.add_lit]
  show _ = some (Value.int .u8 ((UInt8.ofNat n).toNat : Int))
  rw [this]
  simp
theorem S_cons (d : UInt8) (l : List UInt8) : S [d] ++ S l = S (d :: l) := by
  apply L_inj
  simp [L, S]
/-- The digits of a number, ahead of what is there. -/
def decA (k : Nat) (acc : List UInt8) : List UInt8 := if k = 0 then acc else decA (k / 10) (UInt8.ofNat (48 + k % 10) :: acc)
  termination_by k
  decreasing_by omega
theorem decA_0 (acc : List UInt8) : decA 0 acc = acc := by rw [decA, if_pos rfl]
theorem decA_s {k : Nat} (h : k ≠ 0) (acc : List UInt8) : decA k acc = decA (k / 10) (UInt8.ofNat (48 + k % 10) :: acc) := by rw [decA, if_neg h]
/-- What markText answers. -/
def mtL (k : Nat) : List UInt8 := 109 :: decA k []
set_option maxRecDepth 100000 in
set_option maxHeartbeats 400000 in
theorem lText (k : Nat) (w : World) (h1 : 1 ≤ k) (h2 : k ≤ 100000) :
    Calls Tryd.prog 17 #[.int .i64 k] w fun e w' => e = .returned (.string (S (mtL k))) ∧ Below w.heap.size w w' := by
  have q0 : ¬ k = 0 := by omega
  go_enter Tryd.func17, Tryd.ntmps17
  go_wp2
  go_loopw [0, 3] (fun x y wr => ∃ (j : Nat) (acc : List UInt8), x = .int .i64 j ∧ y = .string (S acc) ∧ Below w.heap.size w wr ∧ decA j acc = decA k [] ∧ acc.length + j ≤ 100000) (fun x y wr => (intOf x).toNat)
  case atStart => exact ⟨k, [], rfl, rfl, brf _, rfl, by simp; omega⟩
  case round =>
    obtain ⟨j, acc, rfl, rfl, hb, hd, hl⟩ := hrel
    have za : (S acc).size = acc.length := S_size acc
    by_cases hj : j = 0
    · subst hj
      rw [decA_0] at hd
      have HD := hide hd
      have HB := hide hb
      clear hd hb
      go_wp2
      exact bodyPost_ret (v := .string (S [109] ++ S acc)) (by simp [results, Tryd.results17, go_sem, S]) rfl ⟨by rw [S_cons, unhide HD]; rfl, unhide HB⟩
    · have HD := hide ((decA_s hj acc).symm.trans hd)
      have HB := hide hb
      clear hd hb
      have q1 : ¬ ((j : Int) = 0) := by omega
      have hcv := conv1 wr (48 + j % 10) (by omega)
      have e1 : ((48 + j % 10 : Nat) : Int) = 48 + (j : Int) % 10 := by omega
      rw [e1] at hcv
      have zb : (S [UInt8.ofNat (48 + j % 10)]).size = 1 := rfl
      generalize UInt8.ofNat (48 + j % 10) = d at *
      go_wp2
      exact ⟨⟨j / 10, d :: acc, by go_num, by rw [S_cons], bal (unhide HB) _, unhide HD, by simp; omega⟩, by simp [intOf]; omega⟩
end Go.Proofs.YtdgiidlaafbgcaaDoor
