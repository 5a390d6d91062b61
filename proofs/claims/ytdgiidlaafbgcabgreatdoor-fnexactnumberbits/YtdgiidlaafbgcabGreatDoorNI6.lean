/- What the program's bitsOfBase answers. -/
import Derived.Test.YtdgiidlaafbgcabGreatDoorNI5
namespace Go.Proofs.YtdgiidlaafbgcabGreatDoor
open Go.RowKit
set_option linter.unusedVariables false
set_option linter.unusedSimpArgs false
def baseR (n : Nat) (b : UInt8) (v : List UInt8) : List UInt8 × Nat := if b = 100 then decR n v else digR (Nb.baseN b) n v
set_option maxRecDepth 100000 in
set_option maxHeartbeats 400000 in
theorem iBase_d (s : ByteArray) (n : Nat) (w : World) (hs : s.size ≤ 1000) (h1 : 1 ≤ n) (h2 : n ≤ 64) (h0 : L s ≠ []) (hg : Gd w) (R : List UInt8 × Nat) (hR : decR n (L s) = R) :
    Calls Tryz.prog 18 #[.int .u8 100, .string s, .int .i64 n] w fun e w' => e = .returned (bdV R) ∧ Below w.heap.size w w' := by
  have D := hide (fun v hg => iDec s n v (by omega) h1 h2 h0 hg)
  rw [hR] at D
  unfold bdV at D ⊢
  have HG := hide hg
  clear hR hg h0
  go_enter Tryz.func18, Tryz.ntmps18
  go_wp2_with fail
  refine (unhide D _ (unhide HG)).mono ?_
  rintro e v1 ⟨rfl, hb1⟩
  go_wp2
  exact bodyPost_ret (v := .tuple #[.string (S R.1), .int .i64 (R.2 : Nat)]) (by simp [results, Tryz.results18, go_sem]) rfl ⟨rfl, hb1⟩
set_option maxRecDepth 100000 in
set_option maxHeartbeats 400000 in
theorem iBase_b (s : ByteArray) (n : Nat) (w : World) (hs : s.size ≤ 1000) (h1 : 1 ≤ n) (h2 : n ≤ 64) (hv : (L s).all Nb.valB = true) (h0 : 1 ≤ s.size) (R : List UInt8 × Nat) (hR : digR 1 n (L s) = R) :
    Calls Tryz.prog 18 #[.int .u8 98, .string s, .int .i64 n] w fun e w' => e = .returned (bdV R) ∧ Below w.heap.size w w' := by
  have D : Hid (∀ v, Calls Tryz.prog 29 #[.string s, .int .i64 1, .int .i64 n] v fun e w' => e = .returned (bdV R) ∧ Below v.heap.size v w') := fun v => iDigs s 1 n v hs h1 h2 (by omega) hv h0 R hR
  unfold bdV at D ⊢
  clear hR hv
  go_enter Tryz.func18, Tryz.ntmps18
  go_wp2_with fail
  refine (unhide D _).mono ?_
  rintro e v1 ⟨rfl, hb1⟩
  go_wp2
  exact bodyPost_ret (v := .tuple #[.string (S R.1), .int .i64 (R.2 : Nat)]) (by simp [results, Tryz.results18, go_sem]) rfl ⟨rfl, hb1⟩
set_option maxRecDepth 100000 in
set_option maxHeartbeats 400000 in
theorem iBase_o (s : ByteArray) (n : Nat) (w : World) (hs : s.size ≤ 1000) (h1 : 1 ≤ n) (h2 : n ≤ 64) (hv : (L s).all Nb.valB = true) (h0 : 1 ≤ s.size) (R : List UInt8 × Nat) (hR : digR 3 n (L s) = R) :
    Calls Tryz.prog 18 #[.int .u8 111, .string s, .int .i64 n] w fun e w' => e = .returned (bdV R) ∧ Below w.heap.size w w' := by
  have D : Hid (∀ v, Calls Tryz.prog 29 #[.string s, .int .i64 3, .int .i64 n] v fun e w' => e = .returned (bdV R) ∧ Below v.heap.size v w') := fun v => iDigs s 3 n v hs h1 h2 (by omega) hv h0 R hR
  unfold bdV at D ⊢
  clear hR hv
  go_enter Tryz.func18, Tryz.ntmps18
  go_wp2_with fail
  refine (unhide D _).mono ?_
  rintro e v1 ⟨rfl, hb1⟩
  go_wp2
  exact bodyPost_ret (v := .tuple #[.string (S R.1), .int .i64 (R.2 : Nat)]) (by simp [results, Tryz.results18, go_sem]) rfl ⟨rfl, hb1⟩
set_option maxRecDepth 100000 in
set_option maxHeartbeats 400000 in
theorem iBase_h (s : ByteArray) (n : Nat) (w : World) (hs : s.size ≤ 1000) (h1 : 1 ≤ n) (h2 : n ≤ 64) (hv : (L s).all Nb.valB = true) (h0 : 1 ≤ s.size) (R : List UInt8 × Nat) (hR : digR 4 n (L s) = R) :
    Calls Tryz.prog 18 #[.int .u8 104, .string s, .int .i64 n] w fun e w' => e = .returned (bdV R) ∧ Below w.heap.size w w' := by
  have D : Hid (∀ v, Calls Tryz.prog 29 #[.string s, .int .i64 4, .int .i64 n] v fun e w' => e = .returned (bdV R) ∧ Below v.heap.size v w') := fun v => iDigs s 4 n v hs h1 h2 (by omega) hv h0 R hR
  unfold bdV at D ⊢
  clear hR hv
  go_enter Tryz.func18, Tryz.ntmps18
  go_wp2_with fail
  refine (unhide D _).mono ?_
  rintro e v1 ⟨rfl, hb1⟩
  go_wp2
  exact bodyPost_ret (v := .tuple #[.string (S R.1), .int .i64 (R.2 : Nat)]) (by simp [results, Tryz.results18, go_sem]) rfl ⟨rfl, hb1⟩
theorem iBase (b : UInt8) (s : ByteArray) (n : Nat) (w : World) (hs : s.size ≤ 1000) (h1 : 1 ≤ n) (h2 : n ≤ 64) (hb : Nb.baseB b = true) (hv : (L s).all Nb.valB = true) (h0 : 1 ≤ s.size) (hg : Gd w) :
    Calls Tryz.prog 18 #[.int .u8 (b.toNat : Int), .string s, .int .i64 n] w fun e w' => e = .returned (bdV (baseR n b (L s))) ∧ Below w.heap.size w w' := by
  have hne : L s ≠ [] := fun e => by have := L_len s; rw [e] at this; simp at this; omega
  rcases Nb.base_cases hb with rfl | rfl | rfl | rfl
  · exact iBase_b s n w hs h1 h2 hv h0 _ rfl
  · exact iBase_o s n w hs h1 h2 hv h0 _ rfl
  · exact iBase_h s n w hs h1 h2 hv h0 _ rfl
  · exact iBase_d s n w hs h1 h2 hne hg _ rfl
end Go.Proofs.YtdgiidlaafbgcabGreatDoor
