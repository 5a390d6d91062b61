/- What the program's vecOf answers. -/
import Derived.Test.YtdmmbhemmbgcpabGreatGDD
import Derived.Deep.RegionHeld3
import Derived.Test.YtdmmbhemmbgcpabGreatGN2
import Derived.RegionTactic
import Derived.BigQuiet
namespace Go.Proofs.YtdmmbhemmbgcpabGreat
open Go.RowKit
/-- A vector as the walk holds it: its width and two words. -/
def V (n : Nat) (k h : BitVec 64) : Value := .agg #[.int .i64 n, .int .u64 (U k), .int .u64 (U h)]
theorem cells_eq {a b c d : Int} {n : Value} {W : World} (h1 : a = c) (h2 : b = d) : W.alloc (.cells #[n, .int .u64 a, .int .u64 b] 115) = W.alloc (.cells #[n, .int .u64 c, .int .u64 d] 115) := by rw [h1, h2]
theorem kn_step (s : ByteArray) (k : Nat) (h : k < s.size) (c : UInt8) (e : s[k] = c) : Vb.kn ((L s).take (k + 1)) = Vb.push Vb.knB (Vb.kn ((L s).take k)) c := by
  rw [L_take s k h, Vb.kn, Vb.word_snoc, e]; rfl
theorem wh_step (s : ByteArray) (k : Nat) (h : k < s.size) (c : UInt8) (e : s[k] = c) : Vb.wh ((L s).take (k + 1)) = Vb.push Vb.whB (Vb.wh ((L s).take k)) c := by
  rw [L_take s k h, Vb.wh, Vb.word_snoc, e]; rfl
theorem push_1 (p : UInt8 → Bool) (a : BitVec 64) (c : UInt8) (h : p c = true) : bits .or .u64 (IntKind.u64.wrap (U a * 2)) 1 = U (Vb.push p a c) := by
  rw [U_shl1, U_or1, Vb.push, if_pos h]
theorem push_0 (p : UInt8 → Bool) (a : BitVec 64) (c : UInt8) (h : p c = false) : IntKind.u64.wrap (U a * 2) = U (Vb.push p a c) := by
  rw [U_shl1, Vb.push, if_neg (by simp [h])]; simp
abbrev W0 (w : World) : World := w.alloc (.cells #[.int .i64 0, .int .u64 0, .int .u64 0] 115)

set_option maxHeartbeats 400000 in
theorem iVecOf (s : ByteArray) (w : World) (hs : s.size ≤ maxLen) (hv : Vb.okV (L s) = true) :
    Calls Tryz.prog 93 #[.string s] w fun e w' => e = .returned (.tuple #[V s.size (Vb.kn (L s)) (Vb.wh (L s)), .bool true]) ∧ Below w.heap.size w w' := by
  unfold maxLen at hs
  obtain ⟨h1, h2, h3⟩ := (okV_iff s).1 hv
  clear hv
  have HV : Hid ((L s).all Vb.isV = true) := h3
  clear h3
  have c1 : decide ((s.size : Int) < 1) = false := by simp; omega
  have c2 : decide (64 < (s.size : Int)) = false := by simp; omega
  go_enter Tryz.func93, Tryz.ntmps93
  go_wp2
  go_loopw [5] (fun i W => ∃ k : Nat, k ≤ s.size ∧ i = .int .i64 k ∧ W = (w.alloc (.cells #[.int .i64 0, .int .u64 0, .int .u64 0] 115)).alloc (.cells #[.int .i64 s.size, .int .u64 (U (Vb.kn ((L s).take k))), .int .u64 (U (Vb.wh ((L s).take k)))] 115)) (fun i _ => s.size - (intOf i).toNat)
  case atStart => exact ⟨0, Nat.zero_le _, rfl, rfl⟩
  case round =>
    obtain ⟨k, hk, rfl, rfl⟩ := hrel
    by_cases hlt : k < s.size
    · have ks := kn_step s k hlt
      have ws := wh_step s k hlt
      have KS := hide ks
      have WS := hide ws
      clear ks ws
      generalize Vb.kn ((L s).take k) = K at *
      generalize Vb.wh ((L s).take k) = H at *
      rcases cls s[k] with e | e | e | e | ⟨hn, n1, n2, n3, n4⟩
      · have e' : (s[k].toNat : Int) = 48 := by rw [e]; rfl
        have E := hide e
        clear e
        go_wp2
        exact ⟨⟨k + 1, by omega, by go_num, cells_eq (by rw [unhide KS _ (unhide E)]; exact push_1 _ _ _ rfl) (by rw [unhide WS _ (unhide E)]; exact push_0 _ _ _ rfl)⟩, by simp [intOf]; omega⟩
      · have e' : (s[k].toNat : Int) = 49 := by rw [e]; rfl
        have E := hide e
        clear e
        go_wp2
        exact ⟨⟨k + 1, by omega, by go_num, cells_eq (by rw [unhide KS _ (unhide E)]; exact push_1 _ _ _ rfl) (by rw [unhide WS _ (unhide E)]; exact push_1 _ _ _ rfl)⟩, by simp [intOf]; omega⟩
      · have e' : (s[k].toNat : Int) = 120 := by rw [e]; rfl
        have E := hide e
        clear e
        go_wp2
        exact ⟨⟨k + 1, by omega, by go_num, cells_eq (by rw [unhide KS _ (unhide E)]; exact push_0 _ _ _ rfl) (by rw [unhide WS _ (unhide E)]; exact push_0 _ _ _ rfl)⟩, by simp [intOf]; omega⟩
      · have e' : (s[k].toNat : Int) = 122 := by rw [e]; rfl
        have E := hide e
        clear e
        go_wp2
        exact ⟨⟨k + 1, by omega, by go_num, cells_eq (by rw [unhide KS _ (unhide E)]; exact push_0 _ _ _ rfl) (by rw [unhide WS _ (unhide E)]; exact push_1 _ _ _ rfl)⟩, by simp [intOf]; omega⟩
      · rw [all_of HV.out k hlt] at hn; cases hn
    · have hz : k = s.size := by omega
      subst hz
      rw [L_take_all s s.size (Nat.le_refl _)]
      go_wp2
      refine bodyPost_ret (v := .tuple #[V s.size (Vb.kn (L s)) (Vb.wh (L s)), .bool true]) (by simp [results, Tryz.results93, go_sem, V]) rfl ⟨rfl, ?_⟩
      exact ((Below.refl _ _).alloc (Nat.le_refl _) _).alloc (by simp) _

set_option maxHeartbeats 400000 in
theorem iVecOf_no (s : ByteArray) (w : World) (hs : s.size ≤ maxLen) (hv : Vb.okV (L s) = false) :
    Calls Tryz.prog 93 #[.string s] w fun e w' => e = .returned (.tuple #[V 0 0#64 0#64, .bool false]) ∧ Below w.heap.size w w' := by
  unfold maxLen at hs
  by_cases h1 : (s.size : Int) < 1
  · go_enter Tryz.func93, Tryz.ntmps93
    go_wp2
    refine bodyPost_ret (v := .tuple #[V 0 0#64 0#64, .bool false]) (by simp [results, Tryz.results93, go_sem, V, U]) rfl ⟨rfl, ?_⟩
    exact ((Below.refl _ _).alloc (Nat.le_refl _) _)
  by_cases h2 : 64 < (s.size : Int)
  · go_enter Tryz.func93, Tryz.ntmps93
    go_wp2
    refine bodyPost_ret (v := .tuple #[V 0 0#64 0#64, .bool false]) (by simp [results, Tryz.results93, go_sem, V, U]) rfl ⟨rfl, ?_⟩
    exact ((Below.refl _ _).alloc (Nat.le_refl _) _)
  have HV := hide hv
  clear hv
  have c1 : decide ((s.size : Int) < 1) = false := by simp; omega
  have c2 : decide (64 < (s.size : Int)) = false := by simp; omega
  go_enter Tryz.func93, Tryz.ntmps93
  go_wp2
  go_loopw [5] (fun i W => ∃ k : Nat, k ≤ s.size ∧ i = .int .i64 k ∧ ((L s).take k).all Vb.isV = true ∧ ∃ K H : Int, W = (w.alloc (.cells #[.int .i64 0, .int .u64 0, .int .u64 0] 115)).alloc (.cells #[.int .i64 s.size, .int .u64 K, .int .u64 H] 115)) (fun i _ => s.size - (intOf i).toNat)
  case atStart => exact ⟨0, Nat.zero_le _, rfl, rfl, _, _, rfl⟩
  case round =>
    obtain ⟨k, hk, rfl, hp, K, H, rfl⟩ := hrel
    have HP := hide hp
    clear hp
    by_cases hlt : k < s.size
    · rcases cls s[k] with e | e | e | e | ⟨hn, n1, n2, n3, n4⟩
      · have e' : (s[k].toNat : Int) = 48 := by rw [e]; rfl
        have E := hide e
        clear e
        go_wp2
        exact ⟨⟨k + 1, by omega, by go_num, all_step k hlt (by rw [unhide E]; rfl) (unhide HP), _, _, rfl⟩, by simp [intOf]; omega⟩
      · have e' : (s[k].toNat : Int) = 49 := by rw [e]; rfl
        have E := hide e
        clear e
        go_wp2
        exact ⟨⟨k + 1, by omega, by go_num, all_step k hlt (by rw [unhide E]; rfl) (unhide HP), _, _, rfl⟩, by simp [intOf]; omega⟩
      · have e' : (s[k].toNat : Int) = 120 := by rw [e]; rfl
        have E := hide e
        clear e
        go_wp2
        exact ⟨⟨k + 1, by omega, by go_num, all_step k hlt (by rw [unhide E]; rfl) (unhide HP), _, _, rfl⟩, by simp [intOf]; omega⟩
      · have e' : (s[k].toNat : Int) = 122 := by rw [e]; rfl
        have E := hide e
        clear e
        go_wp2
        exact ⟨⟨k + 1, by omega, by go_num, all_step k hlt (by rw [unhide E]; rfl) (unhide HP), _, _, rfl⟩, by simp [intOf]; omega⟩
      · clear hn
        go_wp2
        refine bodyPost_ret (v := .tuple #[V 0 0#64 0#64, .bool false]) (by simp [results, Tryz.results93, go_sem, V, U]) rfl ⟨rfl, ?_⟩
        exact ((Below.refl _ _).alloc (Nat.le_refl _) _).alloc (by simp) _
    · exfalso
      have h := unhide HP
      rw [L_take_all s k (by omega)] at h
      have := (okV_iff s).2 ⟨by omega, by omega, h⟩
      rw [unhide HV] at this; cases this
end Go.Proofs.YtdmmbhemmbgcpabGreat
namespace Go.Proofs.YtdmmbhemmbgcpabGreat
open Go.RowKit
attribute [local go_sem] U_and U_or U_xor U_andNot U_shl U_shr U_shl1 U_or1 U_and1 U_toNat U_nonneg U_low U_beq U_bne
set_option maxHeartbeats 400000 in
theorem iLow (c : Nat) (w : World) :
    Calls Tryz.prog 110 #[.int .u64 (c : Int)] w fun e w' => e = .returned (.int .u64 (U (Vb.ones c))) ∧ w' = w := by
  go_enter Tryz.func110, Tryz.ntmps110
  go_wp2
  go_ret
  exact ⟨rfl, rfl⟩
set_option maxHeartbeats 400000 in
theorem iMask (n : Nat) (k h : BitVec 64) (hn : n ≤ 64) (w : World) :
    Calls Tryz.prog 107 #[.agg #[.int .i64 n, .int .u64 (U (k)), .int .u64 (U (h))]] w fun e w' => e = .returned (.int .u64 (U (Vb.ones n))) ∧ w.alloc (.cells #[.int .i64 n, .int .u64 (U (k)), .int .u64 (U (h))] 115) = w' := by
  go_enter Tryz.func107, Tryz.ntmps107
  go_wp2_with (go_at_call 110; refine (iLow _ _).mono ?_; rintro e w' ⟨rfl, rfl⟩)
  go_ret
  exact ⟨rfl, rfl⟩
set_option maxHeartbeats 400000 in
theorem iIsKnown (n : Nat) (k h : BitVec 64) (hn : n ≤ 64) (w : World) :
    Calls Tryz.prog 94 #[V n k h] w fun e w' => e = .returned (.bool (k == Vb.ones n)) ∧ Below w.heap.size w w' := by
  unfold V
  go_enter Tryz.func94, Tryz.ntmps94
  go_wp2
  go_region_held3 (fun w' => w'.cell? ⟨w.heap.size, 0, none⟩ = some (.int .i64 n) ∧ w'.cell? ⟨w.heap.size, 1, none⟩ = some (.int .u64 (U k)) ∧ w'.cell? ⟨w.heap.size, 2, none⟩ = some (.int .u64 (U h))) (first | (go_simp; done) | (refine ⟨?_, ?_, ?_⟩ <;> (refine cell_later hb ?_; go_simp)) | go_keep) (first | (go_at_call 107; refine (iMask _ _ _ ?_ _).mono ?_; omega; rintro e w' ⟨rfl, rfl⟩))
  go_wp2
  go_ret
  exact ⟨rfl, bdr (bal (bal (brf _) _) _)⟩
end Go.Proofs.YtdmmbhemmbgcpabGreat
namespace Go.Proofs.YtdmmbhemmbgcpabGreat
open Go.RowKit Gs
set_option linter.unusedVariables false
set_option maxRecDepth 100000
def anyW (n : Int) : Bool := decide (14 ≤ n) && decide (n ≤ 18)
end Go.Proofs.YtdmmbhemmbgcpabGreat
namespace Go.Proofs.YtdmmbhemmbgcpabGreat
open Go.RowKit Gs
set_option linter.unusedVariables false
set_option maxRecDepth 100000
theorem kv_cells {w W1 : World} (hb1 : Below (w.alloc (.cells #[.int .i64 0, .int .u64 0, .int .u64 0] 115)).heap.size (w.alloc (.cells #[.int .i64 0, .int .u64 0, .int .u64 0] 115)) W1) :
    (W1.cell? ⟨w.heap.size, 0, none⟩ = some (.int .i64 0) ∧ W1.cell? ⟨w.heap.size, 1, none⟩ = some (.int .u64 0) ∧ W1.cell? ⟨w.heap.size, 2, none⟩ = some (.int .u64 0)) ∧ (W1.frozen? ⟨w.heap.size, 0, none⟩ = false ∧ W1.frozen? ⟨w.heap.size, 1, none⟩ = false ∧ W1.frozen? ⟨w.heap.size, 2, none⟩ = false) ∧ w.heap.size < W1.heap.size ∧ Below w.heap.size w W1 := by
  have hsz : (w.alloc (.cells #[.int .i64 0, .int .u64 0, .int .u64 0] 115)).heap.size = w.heap.size + 1 := by go_simp
  have h1 := hb1.size
  refine ⟨⟨cell_later hb1 (by go_simp), cell_later hb1 (by go_simp), cell_later hb1 (by go_simp)⟩, ⟨((bcell hb1).2 _ _ (by omega)).trans (by go_simp), ((bcell hb1).2 _ _ (by omega)).trans (by go_simp), ((bcell hb1).2 _ _ (by omega)).trans (by go_simp)⟩, by omega, btr (bal (brf w) _) hb1⟩
theorem iKnownVec_no (s : ByteArray) (w : World) (hs : s.size ≤ maxLen) (h : Vb.okV (L s) = false) : Calls Tryz.prog 63 #[.string s] w fun e w' => e = .returned (.tuple #[V 0 0#64 0#64, .bool false]) ∧ Below w.heap.size w w' := by
  go_enter Tryz.func63, Tryz.ntmps63
  go_wp2_with (go_at_call 93; refine (iVecOf_no s _ hs h).mono ?_; rintro e W1 ⟨rfl, hb1⟩; obtain ⟨⟨c0, c1, c2⟩, ⟨f0, f1, f2⟩, hlt, hb⟩ := kv_cells hb1; have HB := hide hb; clear hb1 hb; unfold V)
  go_region
  go_wp2
  exact bodyPost_ret (v := .tuple #[V 0 0#64 0#64, .bool false]) (by simp [results, Tryz.results63, go_sem, V, c0, c1, c2, hlt]) rfl ⟨rfl, bdr (bal (bst (bst (bst (unhide HB) (Nat.le_refl _) _) (Nat.le_refl _) _) (Nat.le_refl _) _) _)⟩
theorem kv_after {w W1 W2 : World} {x0 x1 x2 : Value} (c0 : W1.cell? ⟨w.heap.size, 0, none⟩ = some (.int .i64 0)) (c1 : W1.cell? ⟨w.heap.size, 1, none⟩ = some (.int .u64 0)) (c2 : W1.cell? ⟨w.heap.size, 2, none⟩ = some (.int .u64 0)) (f0 : W1.frozen? ⟨w.heap.size, 0, none⟩ = false) (f1 : W1.frozen? ⟨w.heap.size, 1, none⟩ = false) (f2 : W1.frozen? ⟨w.heap.size, 2, none⟩ = false) (hlt : w.heap.size < W1.heap.size) (HB : Hid (Below w.heap.size w W1))
    (hb2 : Below (W1.alloc (.cells #[x0, x1, x2] 115)).drew.heap.size (W1.alloc (.cells #[x0, x1, x2] 115)).drew W2) :
    (W2.cell? ⟨w.heap.size, 0, none⟩ = some (.int .i64 0) ∧ W2.cell? ⟨w.heap.size, 1, none⟩ = some (.int .u64 0) ∧ W2.cell? ⟨w.heap.size, 2, none⟩ = some (.int .u64 0)) ∧ (W2.frozen? ⟨w.heap.size, 0, none⟩ = false ∧ W2.frozen? ⟨w.heap.size, 1, none⟩ = false ∧ W2.frozen? ⟨w.heap.size, 2, none⟩ = false) ∧ (W2.cell? ⟨W1.heap.size, 0, none⟩ = some x0 ∧ W2.cell? ⟨W1.heap.size, 1, none⟩ = some x1 ∧ W2.cell? ⟨W1.heap.size, 2, none⟩ = some x2) ∧ Below w.heap.size w W2 := by
  have hb := unhide HB
  have hbd : Below W1.heap.size W1 W2 := btr (bdr (bal (brf W1) _)) hb2
  refine ⟨⟨cell_later hbd c0, cell_later hbd c1, cell_later hbd c2⟩, ⟨((bcell hbd).2 _ _ hlt).trans f0, ((bcell hbd).2 _ _ hlt).trans f1, ((bcell hbd).2 _ _ hlt).trans f2⟩, ⟨cell_later hb2 (by go_simp), cell_later hb2 (by go_simp), cell_later hb2 (by go_simp)⟩, btr hb hbd⟩
theorem iKnownVec (s : ByteArray) (w : World) (hs : s.size ≤ maxLen) (h : Vb.okV (L s) = true) : Calls Tryz.prog 63 #[.string s] w fun e w' => e = .returned (.tuple #[V s.size (Vb.kn (L s)) (Vb.wh (L s)), .bool (Vb.kn (L s) == Vb.ones s.size)]) ∧ Below w.heap.size w w' := by
  have h64 : s.size ≤ 64 := ((okV_iff s).1 h).2.1
  go_enter Tryz.func63, Tryz.ntmps63
  go_wp2_with (go_at_call 93; refine (iVecOf s _ hs h).mono ?_; rintro e W1 ⟨rfl, hb1⟩; obtain ⟨⟨c0, c1, c2⟩, ⟨f0, f1, f2⟩, hlt, hb⟩ := kv_cells hb1; have HB := hide hb; clear hb1 hb; unfold V)
  go_region_with (first | (go_at_call 94; refine (iIsKnown _ _ _ h64 _).mono ?_; rintro e W2 ⟨rfl, hb2⟩; obtain ⟨⟨d0, d1, d2⟩, ⟨g0, g1, g2⟩, ⟨e0, e1, e2⟩, hb3⟩ := kv_after c0 c1 c2 f0 f1 f2 hlt HB hb2; have HB2 := hide hb3; clear hb2 hb3))
  all_goals (go_wp2; exact bodyPost_ret (v := .tuple #[V s.size (Vb.kn (L s)) (Vb.wh (L s)), .bool (Vb.kn (L s) == Vb.ones s.size)]) (by simp [results, Tryz.results63, go_sem, V, d0, d1, d2]) rfl ⟨rfl, bst (bst (bst (unhide HB2) (Nat.le_refl _) _) (Nat.le_refl _) _) (Nat.le_refl _) _⟩)
end Go.Proofs.YtdmmbhemmbgcpabGreat
