/- OnesCount64 of a number below 256. -/
import Derived.Test.YtkmpjoiefcjbnaaDoorBase
import Derived.Test.YtkmpjoiefcjbnaaDoorLC
import Derived.Test.YtkmpjoiefcjbnaaDoorGS2
namespace Go.Proofs.YtkmpjoiefcjbnaaDoor
open Go.RowKit
set_option linter.unusedVariables false
set_option maxRecDepth 100000
def q1 (x : BitVec 64) : BitVec 64 := (x >>> 1 &&& 6148914691236517205#64) + (x &&& 6148914691236517205#64)
def q2 (x : BitVec 64) : BitVec 64 := (x >>> 2 &&& 3689348814741910323#64) + (x &&& 3689348814741910323#64)
def q3 (x : BitVec 64) : BitVec 64 := (x >>> 4 + x) &&& 1085102592571150095#64
def q4 (x : BitVec 64) : BitVec 64 := x + x >>> 8
def q5 (x : BitVec 64) : BitVec 64 := x + x >>> 16
def q6 (x : BitVec 64) : BitVec 64 := x + x >>> 32
theorem U_add (x y : BitVec 64) : IntKind.u64.wrap (U x + U y) = U (x + y) := by
  rw [IntKind.wrap_u64]; unfold U; rw [BitVec.toNat_add]; omega
theorem U_sh1 (x : BitVec 64) : U x / (2 : Int) = U (x >>> 1) := U_shr x 1
theorem U_sh2 (x : BitVec 64) : U x / (4 : Int) = U (x >>> 2) := U_shr x 2
theorem U_sh4 (x : BitVec 64) : U x / (16 : Int) = U (x >>> 4) := U_shr x 4
theorem U_sh8 (x : BitVec 64) : U x / (256 : Int) = U (x >>> 8) := U_shr x 8
theorem U_sh16 (x : BitVec 64) : U x / (65536 : Int) = U (x >>> 16) := U_shr x 16
theorem U_sh32 (x : BitVec 64) : U x / (4294967296 : Int) = U (x >>> 32) := U_shr x 32
theorem U_m1 (x : BitVec 64) : bits .and .u64 (U x) 6148914691236517205 = U (x &&& 6148914691236517205#64) := U_and x 6148914691236517205#64
theorem U_m2 (x : BitVec 64) : bits .and .u64 (U x) 3689348814741910323 = U (x &&& 3689348814741910323#64) := U_and x 3689348814741910323#64
theorem U_m4 (x : BitVec 64) : bits .and .u64 (U x) 1085102592571150095 = U (x &&& 1085102592571150095#64) := U_and x 1085102592571150095#64
def popc (x : BitVec 64) : BitVec 64 := q6 (q5 (q4 (q3 (q2 (q1 x)))))
theorem ret_int {a b : Int} (h : a = b) : Ending.returned (.int .i64 a) = .returned (.int .i64 b) := by rw [h]
set_option maxHeartbeats 4000000 in
theorem iCount (x : BitVec 64) (w : World) :
    Calls Tryd.prog 80 #[.int .u64 (U x)] w fun e w' => e = .returned (.int .i64 (bits .and .i64 (wrap64 (U (popc x))) 127)) ∧ w' = w := by
  go_enter Tryd.func80, Tryd.ntmps80
  go_wp2
  go_ret
  refine ⟨ret_int ?_, rfl⟩
  simp only [U_add, U_sh1, U_sh2, U_sh4, U_sh8, U_sh16, U_sh32, U_m1, U_m2, U_m4]
  rfl
/-- How many of the lowest eight bits are ones. -/
def pc (m : Nat) : Nat := (List.range 8).countP fun i => m.testBit i
theorem pc_all : ∀ m : Fin 256, bits .and .i64 (wrap64 (U (popc (BitVec.ofNat 64 m.1)))) 127 = ((pc m.1 : Nat) : Int) := by decide +kernel
theorem iCountS (m : Nat) (h : m < 256) (w : World) : Calls Tryd.prog 80 #[.int .u64 (m : Int)] w fun e w' => e = .returned (.int .i64 (pc m : Nat)) ∧ w' = w := by
  have hu : (m : Int) = U (BitVec.ofNat 64 m) := by
    unfold U
    rw [BitVec.toNat_ofNat]
    omega
  rw [hu]
  refine (iCount (BitVec.ofNat 64 m) w).mono ?_
  rintro e w' ⟨rfl, rfl⟩
  exact ⟨ret_int (pc_all ⟨m, h⟩), rfl⟩
end Go.Proofs.YtkmpjoiefcjbnaaDoor
namespace Go.Proofs.YtkmpjoiefcjbnaaDoor
open Go.RowKit Gs
set_option linter.unusedVariables false
set_option linter.unusedSimpArgs false
set_option maxRecDepth 100000
/-- A set of numbers below 8: the first word of four. -/
structure NS (W : World) (b m : Nat) : Prop where
  c0 : W.cell? ⟨b, 0, none⟩ = some (.int .u64 (m : Int))
  c1 : W.cell? ⟨b, 1, none⟩ = some (.int .u64 0)
  c2 : W.cell? ⟨b, 2, none⟩ = some (.int .u64 0)
  c3 : W.cell? ⟨b, 3, none⟩ = some (.int .u64 0)
  free : W.frozen? ⟨b, 0, none⟩ = false
  small : m < 256
theorem or_small (m c : Nat) (hm : m < 256) (hc : c < 8) : bits .or .u64 (m : Int) ((2 ^ c : Nat) : Int) = ((m ||| 2 ^ c : Nat) : Int) ∧ m ||| 2 ^ c < 256 := by
  have h2 : 2 ^ c < 256 := by
    have : 2 ^ c < 2 ^ 8 := Nat.pow_lt_pow_right (by omega) hc
    exact this
  have hlt : m ||| 2 ^ c < 256 := Nat.or_lt_two_pow (n := 8) hm h2
  refine ⟨?_, hlt⟩
  have e1 : (m : Int) = U (BitVec.ofNat 64 m) := by unfold U; rw [BitVec.toNat_ofNat, Nat.mod_eq_of_lt (show m < 2 ^ 64 by omega)]
  have e2 : ((2 ^ c : Nat) : Int) = U (BitVec.ofNat 64 (2 ^ c)) := by unfold U; rw [BitVec.toNat_ofNat, Nat.mod_eq_of_lt (show 2 ^ c < 2 ^ 64 by omega)]
  rw [e1, e2, U_or]
  unfold U
  rw [BitVec.toNat_or, BitVec.toNat_ofNat, BitVec.toNat_ofNat, Nat.mod_eq_of_lt (show m < 2 ^ 64 by omega), Nat.mod_eq_of_lt (show 2 ^ c < 2 ^ 64 by omega)]
set_option maxHeartbeats 4000000 in
theorem iAdd (W : World) (b m c : Nat) (h : NS W b m) (hc : c < 8) :
    Calls Tryd.prog 52 #[.pointer (some ⟨b, 0, none⟩), .int .i64 (c : Int)] W fun e w' => (∃ v, e = .returned v) ∧ w' = (W.setCell ⟨b, 0, none⟩ (.int .u64 ((m ||| 2 ^ c : Nat) : Int))).drew := by
  obtain ⟨c0, c1, c2, c3, hf, hm⟩ := h
  obtain ⟨hor, hlt⟩ := or_small m c hm hc
  have hcc : c = 0 ∨ c = 1 ∨ c = 2 ∨ c = 3 ∨ c = 4 ∨ c = 5 ∨ c = 6 ∨ c = 7 := by omega
  rcases hcc with rfl | rfl | rfl | rfl | rfl | rfl | rfl | rfl
  all_goals
    go_enter Tryd.func52, Tryd.ntmps52
    go_wp2
    go_region
    go_wp2
    refine bodyPost_end (v := .tuple #[]) (by simp [results, Tryd.results52, go_sem]) rfl ⟨⟨_, rfl⟩, ?_⟩
    rw [← hor]
    rfl
theorem NS.add {W : World} {b m c : Nat} (h : NS W b m) (hc : c < 8) : NS (W.setCell ⟨b, 0, none⟩ (.int .u64 ((m ||| 2 ^ c : Nat) : Int))).drew b (m ||| 2 ^ c) := by
  have so : ∀ j, j ≠ 0 → (W.setCell ⟨b, 0, none⟩ (.int .u64 ((m ||| 2 ^ c : Nat) : Int))).cell? ⟨b, j, none⟩ = W.cell? ⟨b, j, none⟩ := fun j hj =>
    World.cell?_setCell_other (w := W) (a := ⟨b, 0, none⟩) (b := ⟨b, j, none⟩) (v := _) (ne_addr (.inr hj))
  exact ⟨World.cell?_setCell_same (w := W) (a := ⟨b, 0, none⟩) (v := _) h.c0, (so 1 (by omega)).trans h.c1, (so 2 (by omega)).trans h.c2, (so 3 (by omega)).trans h.c3, by simpa using h.free, (or_small m c h.small hc).2⟩
theorem NS.later {W V : World} {b m : Nat} (h : NS W b m) (hb : Below W.heap.size W V) : NS V b m :=
  ⟨cell_later hb h.c0, cell_later hb h.c1, cell_later hb h.c2, cell_later hb h.c3, frozen_later hb h.c0 h.free, h.small⟩
set_option maxHeartbeats 4000000 in
theorem iSize (W : World) (b m : Nat) (h : NS W b m) :
    Calls Tryd.prog 54 #[.pointer (some ⟨b, 0, none⟩)] W fun e w' => e = .returned (.int .i64 (pc m : Nat)) ∧ w' = W := by
  obtain ⟨c0, c1, c2, c3, hf, hm⟩ := h
  have hpc : pc m ≤ 8 := by
    unfold pc
    exact Nat.le_trans (List.countP_le_length) (by simp)
  have CM := hide (fun V => iCountS m hm V)
  have CZ := hide (fun V => (show Calls Tryd.prog 80 #[.int .u64 0] V fun e w' => e = .returned (.int .i64 0) ∧ w' = V from by
    have h0 := iCountS 0 (by omega) V
    rw [show pc 0 = 0 from by decide +kernel] at h0
    exact h0))
  generalize pc m = P at *
  go_enter Tryd.func54, Tryd.ntmps54
  go_wp2
  go_loopw [3, 7] (fun ct i wr => ∃ k : Nat, k ≤ 4 ∧ i = .int .i64 k ∧ ct = .int .i64 (if k = 0 then 0 else (P : Int)) ∧ wr = W) (fun _ i _ => 4 - (intOf i).toNat)
  case atStart => exact ⟨0, Nat.zero_le _, rfl, rfl, rfl⟩
  case round =>
    obtain ⟨k, hk, rfl, rfl, rfl⟩ := hrel
    have hk5 : k = 0 ∨ k = 1 ∨ k = 2 ∨ k = 3 ∨ k = 4 := by omega
    rcases hk5 with rfl | rfl | rfl | rfl | rfl
    · go_wp2_with (first | (go_at_call 80; refine (unhide CM _).mono ?_; rintro e V1 ⟨rfl, rfl⟩))
      exact ⟨⟨1, by omega, rfl, by simp, trivial⟩, by simp [intOf]⟩
    · go_wp2_with (first | (go_at_call 80; refine (unhide CZ _).mono ?_; rintro e V1 ⟨rfl, rfl⟩))
      exact ⟨⟨2, by omega, rfl, by simp, trivial⟩, by simp [intOf]⟩
    · go_wp2_with (first | (go_at_call 80; refine (unhide CZ _).mono ?_; rintro e V1 ⟨rfl, rfl⟩))
      exact ⟨⟨3, by omega, rfl, by simp, trivial⟩, by simp [intOf]⟩
    · go_wp2_with (first | (go_at_call 80; refine (unhide CZ _).mono ?_; rintro e V1 ⟨rfl, rfl⟩))
      exact ⟨⟨4, by omega, rfl, by simp, trivial⟩, by simp [intOf]⟩
    · go_wp2
      go_ret
      exact ⟨rfl, rfl⟩
end Go.Proofs.YtkmpjoiefcjbnaaDoor
