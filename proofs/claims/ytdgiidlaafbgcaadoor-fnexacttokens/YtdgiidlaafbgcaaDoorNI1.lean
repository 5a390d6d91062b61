/- What the program's runSize and numberSize answer. -/
import Derived.Test.YtdgiidlaafbgcaaDoorShelf
import Derived.Test.YtdgiidlaafbgcaaDoorNS2
namespace Go.Proofs.YtdgiidlaafbgcaaDoor
open Go.RowKit
theorem runI (p : UInt8 → Bool) (l cs : List UInt8) (h : ∀ c, cs.contains c = p c) : l.length - (Lib.trimLeftS l cs).length = Nb.runE p l 0 := by
  unfold Lib.trimLeftS Nb.runE
  rw [List.drop_zero, Nat.zero_add]
  have e : (fun c => cs.contains c) = p := funext h
  rw [e]
  induction l with
  | nil => rfl
  | cons c t ih =>
    rw [List.dropWhile_cons, List.takeWhile_cons]
    split
    · have := List.dropWhile_suffix (p := p) (l := t) |>.length_le
      rw [List.length_cons, List.length_cons]; omega
    · simp
theorem dig_set (c : UInt8) : ([48, 49, 50, 51, 52, 53, 54, 55, 56, 57] : List UInt8).contains c = Nb.digB c := by
  have h : ∀ n : Fin 256, ([48, 49, 50, 51, 52, 53, 54, 55, 56, 57] : List UInt8).contains (UInt8.ofFin n) = Nb.digB (UInt8.ofFin n) := by decide +kernel
  exact h c.toFin
theorem val_set (c : UInt8) : ([48, 49, 50, 51, 52, 53, 54, 55, 56, 57, 97, 98, 99, 100, 101, 102, 120, 122] : List UInt8).contains c = Nb.valB c := by
  have h : ∀ n : Fin 256, ([48, 49, 50, 51, 52, 53, 54, 55, 56, 57, 97, 98, 99, 100, 101, 102, 120, 122] : List UInt8).contains (UInt8.ofFin n) = Nb.valB (UInt8.ofFin n) := by decide +kernel
  exact h c.toFin
theorem iTrimL (s cs : ByteArray) (w : World) (hc : cs.size < 4294967281) (ha : (L cs).all (fun b => decide (b.toNat < 128)) = true) :
    Calls Tryd.prog 29 #[.string s, .string cs] w fun e w' => e = .returned (.string (S (Lib.trimLeftS (L s) (L cs)))) ∧ Below w.heap.size w w' :=
  Any.strings_TrimLeft_laid Tryd.lays161 (by kernel_rfl) s cs w hc (ascii_of_all ha)
theorem iRun (p : UInt8 → Bool) (s cs : ByteArray) (w : World) (hs : s.size ≤ maxLen) (hc : cs.size < 4294967281) (ha : (L cs).all (fun b => decide (b.toNat < 128)) = true) (hp : ∀ c, (L cs).contains c = p c) :
    Calls Tryd.prog 26 #[.string s, .string cs] w fun e w' => e = .returned (.int .i64 (Nb.runE p (L s) 0 : Nat)) ∧ Below w.heap.size w w' := by
  have TL := hide (fun v => iTrimL s cs v hc ha)
  have e := runI p (L s) (L cs) hp
  have hle : (Lib.trimLeftS (L s) (L cs)).length ≤ (L s).length := (List.dropWhile_suffix _).length_le
  rw [L_len] at e hle
  have zT : (S (Lib.trimLeftS (L s) (L cs))).size = (Lib.trimLeftS (L s) (L cs)).length := S_size _
  generalize Lib.trimLeftS (L s) (L cs) = t at *
  generalize Nb.runE p (L s) 0 = r at *
  unfold maxLen at hs
  go_enter Tryd.func26, Tryd.ntmps26
  go_wp2_with (go_at_call 29; refine (unhide TL _).mono ?_; rintro e v2 ⟨rfl, hb2⟩)
  go_ret
  exact ⟨by simp [go_sem]; omega, hb2⟩
end Go.Proofs.YtdgiidlaafbgcaaDoor
