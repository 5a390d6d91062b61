/- What the program's vecOf answers. -/
/- What the program's small vector functions answer. -/
/- What the program's numberVec, truthVec, signedNumber answer. -/
/- Boxes of vectors in memory: what lies in them stays behind a call that writes nothing that was there. -/
/- What the program's truth and twoOf answer. -/
/- What the program's choose answers. -/
import Derived.Test.YtmbllgblbdfobaaG0Bits
import Derived.Deep.RegionHeld3
import Derived.Deep.RegionWith
namespace Go.Proofs.Ytmbllgblbdfobaa
open Go.RowKit
/-- A vector as the walk holds it: its width and two words. -/
def V (n : Nat) (k h : BitVec 64) : Value := .agg #[.int .i64 n, .int .u64 (U k), .int .u64 (U h)]
theorem cells_eq {a b c d : Int} {n : Value} {W : World} (h1 : a = c) (h2 : b = d) : W.alloc (.cells #[n, .int .u64 a, .int .u64 b] 60) = W.alloc (.cells #[n, .int .u64 c, .int .u64 d] 60) := by rw [h1, h2]
theorem kn_step (s : ByteArray) (k : Nat) (h : k < s.size) (c : UInt8) (e : s[k] = c) : Vb.kn ((L s).take (k + 1)) = Vb.push Vb.knB (Vb.kn ((L s).take k)) c := by
  rw [L_take s k h, Vb.kn, Vb.word_snoc, e]; rfl
theorem wh_step (s : ByteArray) (k : Nat) (h : k < s.size) (c : UInt8) (e : s[k] = c) : Vb.wh ((L s).take (k + 1)) = Vb.push Vb.whB (Vb.wh ((L s).take k)) c := by
  rw [L_take s k h, Vb.wh, Vb.word_snoc, e]; rfl
theorem push_1 (p : UInt8 → Bool) (a : BitVec 64) (c : UInt8) (h : p c = true) : bits .or .u64 (IntKind.u64.wrap (U a * 2)) 1 = U (Vb.push p a c) := by
  rw [U_shl1, U_or1, Vb.push, if_pos h]
theorem push_0 (p : UInt8 → Bool) (a : BitVec 64) (c : UInt8) (h : p c = false) : IntKind.u64.wrap (U a * 2) = U (Vb.push p a c) := by
  rw [U_shl1, Vb.push, if_neg (by simp [h])]; simp
abbrev W0 (w : World) : World := w.alloc (.cells #[.int .i64 0, .int .u64 0, .int .u64 0] 60)

set_option maxHeartbeats 400000 in
theorem iVecOf (s : ByteArray) (w : World) (hs : s.size ≤ maxLen) (hv : Vb.okV (L s) = true) :
    Calls Try.prog 48 #[.string s] w fun e w' => e = .returned (.tuple #[V s.size (Vb.kn (L s)) (Vb.wh (L s)), .bool true]) ∧ Below w.heap.size w w' := by
  unfold maxLen at hs
  obtain ⟨h1, h2, h3⟩ := (okV_iff s).1 hv
  clear hv
  have HV : Hid ((L s).all Vb.isV = true) := h3
  clear h3
  have c1 : decide ((s.size : Int) < 1) = false := by simp; omega
  have c2 : decide (64 < (s.size : Int)) = false := by simp; omega
  go_enter Try.func48, Try.ntmps48
  go_wp2
  go_loopw [5] (fun i W => ∃ k : Nat, k ≤ s.size ∧ i = .int .i64 k ∧ W = (w.alloc (.cells #[.int .i64 0, .int .u64 0, .int .u64 0] 60)).alloc (.cells #[.int .i64 s.size, .int .u64 (U (Vb.kn ((L s).take k))), .int .u64 (U (Vb.wh ((L s).take k)))] 60)) (fun i _ => s.size - (intOf i).toNat)
  case atStart => exact ⟨0, Nat.zero_le _, rfl, rfl⟩
  case round =>
    obtain ⟨k, hk, rfl, rfl⟩ := hrel
    by_cases hlt : k < s.size
    · have ks := kn_step s k hlt
      have ws := wh_step s k hlt
      have KS := hide ks
      have WS := hide ws
      clear ks ws
      generalize Vb.kn ((L s).take k) = K at *
      generalize Vb.wh ((L s).take k) = H at *
      rcases cls s[k] with e | e | e | e | ⟨hn, n1, n2, n3, n4⟩
      · have e' : (s[k].toNat : Int) = 48 := by rw [e]; rfl
        have E := hide e
        clear e
        go_wp2
        exact ⟨⟨k + 1, by omega, by go_num, cells_eq (by rw [unhide KS _ (unhide E)]; exact push_1 _ _ _ rfl) (by rw [unhide WS _ (unhide E)]; exact push_0 _ _ _ rfl)⟩, by simp [intOf]; omega⟩
      · have e' : (s[k].toNat : Int) = 49 := by rw [e]; rfl
        have E := hide e
        clear e
        go_wp2
        exact ⟨⟨k + 1, by omega, by go_num, cells_eq (by rw [unhide KS _ (unhide E)]; exact push_1 _ _ _ rfl) (by rw [unhide WS _ (unhide E)]; exact push_1 _ _ _ rfl)⟩, by simp [intOf]; omega⟩
      · have e' : (s[k].toNat : Int) = 120 := by rw [e]; rfl
        have E := hide e
        clear e
        go_wp2
        exact ⟨⟨k + 1, by omega, by go_num, cells_eq (by rw [unhide KS _ (unhide E)]; exact push_0 _ _ _ rfl) (by rw [unhide WS _ (unhide E)]; exact push_0 _ _ _ rfl)⟩, by simp [intOf]; omega⟩
      · have e' : (s[k].toNat : Int) = 122 := by rw [e]; rfl
        have E := hide e
        clear e
        go_wp2
        exact ⟨⟨k + 1, by omega, by go_num, cells_eq (by rw [unhide KS _ (unhide E)]; exact push_0 _ _ _ rfl) (by rw [unhide WS _ (unhide E)]; exact push_1 _ _ _ rfl)⟩, by simp [intOf]; omega⟩
      · rw [all_of HV.out k hlt] at hn; cases hn
    · have hz : k = s.size := by omega
      subst hz
      rw [L_take_all s s.size (Nat.le_refl _)]
      go_wp2
      refine bodyPost_ret (v := .tuple #[V s.size (Vb.kn (L s)) (Vb.wh (L s)), .bool true]) (by simp [results, Try.results48, go_sem, V]) rfl ⟨rfl, ?_⟩
      exact ((Below.refl _ _).alloc (Nat.le_refl _) _).alloc (by simp) _

set_option maxHeartbeats 400000 in
theorem iVecOf_no (s : ByteArray) (w : World) (hs : s.size ≤ maxLen) (hv : Vb.okV (L s) = false) :
    Calls Try.prog 48 #[.string s] w fun e w' => e = .returned (.tuple #[V 0 0#64 0#64, .bool false]) ∧ Below w.heap.size w w' := by
  unfold maxLen at hs
  by_cases h1 : (s.size : Int) < 1
  · go_enter Try.func48, Try.ntmps48
    go_wp2
    refine bodyPost_ret (v := .tuple #[V 0 0#64 0#64, .bool false]) (by simp [results, Try.results48, go_sem, V, U]) rfl ⟨rfl, ?_⟩
    exact ((Below.refl _ _).alloc (Nat.le_refl _) _)
  by_cases h2 : 64 < (s.size : Int)
  · go_enter Try.func48, Try.ntmps48
    go_wp2
    refine bodyPost_ret (v := .tuple #[V 0 0#64 0#64, .bool false]) (by simp [results, Try.results48, go_sem, V, U]) rfl ⟨rfl, ?_⟩
    exact ((Below.refl _ _).alloc (Nat.le_refl _) _)
  have HV := hide hv
  clear hv
  have c1 : decide ((s.size : Int) < 1) = false := by simp; omega
  have c2 : decide (64 < (s.size : Int)) = false := by simp; omega
  go_enter Try.func48, Try.ntmps48
  go_wp2
  go_loopw [5] (fun i W => ∃ k : Nat, k ≤ s.size ∧ i = .int .i64 k ∧ ((L s).take k).all Vb.isV = true ∧ ∃ K H : Int, W = (w.alloc (.cells #[.int .i64 0, .int .u64 0, .int .u64 0] 60)).alloc (.cells #[.int .i64 s.size, .int .u64 K, .int .u64 H] 60)) (fun i _ => s.size - (intOf i).toNat)
  case atStart => exact ⟨0, Nat.zero_le _, rfl, rfl, _, _, rfl⟩
  case round =>
    obtain ⟨k, hk, rfl, hp, K, H, rfl⟩ := hrel
    have HP := hide hp
    clear hp
    by_cases hlt : k < s.size
    · rcases cls s[k] with e | e | e | e | ⟨hn, n1, n2, n3, n4⟩
      · have e' : (s[k].toNat : Int) = 48 := by rw [e]; rfl
        have E := hide e
        clear e
        go_wp2
        exact ⟨⟨k + 1, by omega, by go_num, all_step k hlt (by rw [unhide E]; rfl) (unhide HP), _, _, rfl⟩, by simp [intOf]; omega⟩
      · have e' : (s[k].toNat : Int) = 49 := by rw [e]; rfl
        have E := hide e
        clear e
        go_wp2
        exact ⟨⟨k + 1, by omega, by go_num, all_step k hlt (by rw [unhide E]; rfl) (unhide HP), _, _, rfl⟩, by simp [intOf]; omega⟩
      · have e' : (s[k].toNat : Int) = 120 := by rw [e]; rfl
        have E := hide e
        clear e
        go_wp2
        exact ⟨⟨k + 1, by omega, by go_num, all_step k hlt (by rw [unhide E]; rfl) (unhide HP), _, _, rfl⟩, by simp [intOf]; omega⟩
      · have e' : (s[k].toNat : Int) = 122 := by rw [e]; rfl
        have E := hide e
        clear e
        go_wp2
        exact ⟨⟨k + 1, by omega, by go_num, all_step k hlt (by rw [unhide E]; rfl) (unhide HP), _, _, rfl⟩, by simp [intOf]; omega⟩
      · clear hn
        go_wp2
        refine bodyPost_ret (v := .tuple #[V 0 0#64 0#64, .bool false]) (by simp [results, Try.results48, go_sem, V, U]) rfl ⟨rfl, ?_⟩
        exact ((Below.refl _ _).alloc (Nat.le_refl _) _).alloc (by simp) _
    · exfalso
      have h := unhide HP
      rw [L_take_all s k (by omega)] at h
      have := (okV_iff s).2 ⟨by omega, by omega, h⟩
      rw [unhide HV] at this; cases this
end Go.Proofs.Ytmbllgblbdfobaa
namespace Go.Proofs.Ytmbllgblbdfobaa
open Go.RowKit
attribute [local go_sem] U_and U_or U_xor U_andNot U_shl U_shr U_shl1 U_or1 U_and1 U_toNat U_nonneg U_low U_beq U_bne
set_option maxHeartbeats 400000 in
theorem iLow (c : Nat) (w : World) :
    Calls Try.prog 109 #[.int .u64 (c : Int)] w fun e w' => e = .returned (.int .u64 (U (Vb.ones c))) ∧ w' = w := by
  go_enter Try.func109, Try.ntmps109
  go_wp2
  go_ret
  exact ⟨rfl, rfl⟩
set_option maxHeartbeats 400000 in
theorem iMask (n : Nat) (k h : BitVec 64) (hn : n ≤ 64) (w : World) :
    Calls Try.prog 80 #[.agg #[.int .i64 n, .int .u64 (U (k)), .int .u64 (U (h))]] w fun e w' => e = .returned (.int .u64 (U (Vb.ones n))) ∧ w.alloc (.cells #[.int .i64 n, .int .u64 (U (k)), .int .u64 (U (h))] 60) = w' := by
  go_enter Try.func80, Try.ntmps80
  go_wp2_with (go_at_call 109; refine (iLow _ _).mono ?_; rintro e w' ⟨rfl, rfl⟩)
  go_ret
  exact ⟨rfl, rfl⟩
set_option maxHeartbeats 400000 in
theorem iOnes (n : Nat) (k h : BitVec 64) (w : World) :
    Calls Try.prog 114 #[.agg #[.int .i64 n, .int .u64 (U (k)), .int .u64 (U (h))]] w fun e w' => e = .returned (.int .u64 (U (k &&& h))) ∧ w.alloc (.cells #[.int .i64 n, .int .u64 (U (k)), .int .u64 (U (h))] 60) = w' := by
  go_enter Try.func114, Try.ntmps114
  go_wp2
  go_ret
  exact ⟨rfl, rfl⟩
set_option maxHeartbeats 400000 in
theorem iZeros (n : Nat) (k h : BitVec 64) (w : World) :
    Calls Try.prog 115 #[.agg #[.int .i64 n, .int .u64 (U (k)), .int .u64 (U (h))]] w fun e w' => e = .returned (.int .u64 (U (k &&& ~~~h))) ∧ w.alloc (.cells #[.int .i64 n, .int .u64 (U (k)), .int .u64 (U (h))] 60) = w' := by
  go_enter Try.func115, Try.ntmps115
  go_wp2
  go_ret
  exact ⟨rfl, rfl⟩
set_option maxHeartbeats 400000 in
theorem iUndriven (n : Nat) (k h : BitVec 64) (w : World) :
    Calls Try.prog 117 #[.agg #[.int .i64 n, .int .u64 (U (k)), .int .u64 (U (h))]] w fun e w' => e = .returned (.int .u64 (U (h &&& ~~~k))) ∧ w.alloc (.cells #[.int .i64 n, .int .u64 (U (k)), .int .u64 (U (h))] 60) = w' := by
  go_enter Try.func117, Try.ntmps117
  go_wp2
  go_ret
  exact ⟨rfl, rfl⟩
set_option maxHeartbeats 400000 in
theorem iSettled (n : Nat) (z o : BitVec 64) (w : World) :
    Calls Try.prog 116 #[.int .i64 n, .int .u64 (U z), .int .u64 (U o)] w fun e w' => e = .returned (.agg #[.int .i64 n, .int .u64 (U (z ||| o)), .int .u64 (U (o))]) ∧ w.alloc (.cells #[.int .i64 n, .int .u64 (U (z ||| o)), .int .u64 (U (o))] 60) = w' := by
  go_enter Try.func116, Try.ntmps116
  go_wp2
  exact bodyPost_ret (v := .agg #[.int .i64 n, .int .u64 (U (z ||| o)), .int .u64 (U (o))]) (by simp [results, Try.results116, go_sem]) rfl ⟨rfl, rfl⟩
set_option maxHeartbeats 400000 in
theorem iUnknown (n : Nat) (w : World) :
    Calls Try.prog 122 #[.int .i64 n] w fun e w' => e = .returned (V n 0#64 0#64) ∧ Below w.heap.size w w' := by
  go_enter Try.func122, Try.ntmps122
  go_wp2
  exact bodyPost_ret (v := V n 0#64 0#64) (by simp [results, Try.results122, go_sem, V, U]) rfl ⟨rfl, bal (brf _) _⟩
set_option maxHeartbeats 400000 in
theorem iIsKnown (n : Nat) (k h : BitVec 64) (hn : n ≤ 64) (w : World) :
    Calls Try.prog 49 #[V n k h] w fun e w' => e = .returned (.bool (k == Vb.ones n)) ∧ Below w.heap.size w w' := by
  unfold V
  go_enter Try.func49, Try.ntmps49
  go_wp2
  go_region_held3 (fun w' => w'.cell? ⟨w.heap.size, 0, none⟩ = some (.int .i64 n) ∧ w'.cell? ⟨w.heap.size, 1, none⟩ = some (.int .u64 (U k)) ∧ w'.cell? ⟨w.heap.size, 2, none⟩ = some (.int .u64 (U h))) (first | (go_simp; done) | (refine ⟨?_, ?_, ?_⟩ <;> (refine cell_later hb ?_; go_simp)) | go_keep) (first | (go_at_call 80; refine (iMask _ _ _ ?_ _).mono ?_; omega; rintro e w' ⟨rfl, rfl⟩))
  go_wp2
  go_ret
  exact ⟨rfl, bdr (bal (bal (brf _) _) _)⟩
set_option maxHeartbeats 400000 in
theorem iCut (n : Nat) (k h : BitVec 64) (hn : n ≤ 64) (w : World) :
    Calls Try.prog 110 #[.agg #[.int .i64 n, .int .u64 (U (k)), .int .u64 (U (h))]] w fun e w' => e = .returned (V n (k &&& Vb.ones n) (h &&& Vb.ones n)) ∧ Below w.heap.size w w' := by
  go_enter Try.func110, Try.ntmps110
  go_wp2
  go_region_held3 (fun w' => w'.cell? ⟨w.heap.size, 0, none⟩ = some (.int .i64 n) ∧ w'.cell? ⟨w.heap.size, 1, none⟩ = some (.int .u64 (U k)) ∧ w'.cell? ⟨w.heap.size, 2, none⟩ = some (.int .u64 (U h))) (first | (go_simp; done) | (refine ⟨?_, ?_, ?_⟩ <;> (refine cell_later hb ?_; go_simp)) | go_keep) (first | (go_at_call 80; refine (iMask _ _ _ ?_ _).mono ?_; omega; rintro e w' ⟨rfl, rfl⟩))
  go_wp2
  exact bodyPost_ret (v := V n (k &&& Vb.ones n) (h &&& Vb.ones n)) (by simp [results, Try.results110, go_sem, V]) rfl ⟨rfl, bdr (bal (bal (bal (bal (brf _) _) _) _) _)⟩
set_option maxHeartbeats 400000 in
theorem iAnd (n m : Nat) (k h p q : BitVec 64) (w : World) :
    Calls Try.prog 81 #[V n k h, V m p q] w fun e w' => e = .returned (V n (k &&& ~~~h ||| p &&& ~~~q ||| (k &&& h &&& (p &&& q))) (k &&& h &&& (p &&& q))) ∧ Below w.heap.size w w' := by
  unfold V
  go_enter Try.func81, Try.ntmps81
  go_wp2
  go_region_held3 (fun w' => w'.cell? ⟨w.heap.size, 0, none⟩ = some (.int .i64 n) ∧ w'.cell? ⟨w.heap.size, 1, none⟩ = some (.int .u64 (U k)) ∧ w'.cell? ⟨w.heap.size, 2, none⟩ = some (.int .u64 (U h)) ∧ w'.cell? ⟨w.heap.size + 1, 0, none⟩ = some (.int .i64 m) ∧ w'.cell? ⟨w.heap.size + 1, 1, none⟩ = some (.int .u64 (U p)) ∧ w'.cell? ⟨w.heap.size + 1, 2, none⟩ = some (.int .u64 (U q))) (first | (go_simp; done) | (refine ⟨?_, ?_, ?_, ?_, ?_, ?_⟩ <;> (refine cell_later hb ?_; go_simp)) | go_keep) (first | (go_at_call 114; refine (iOnes _ _ _ _).mono ?_; rintro e w' ⟨rfl, rfl⟩) | (go_at_call 115; refine (iZeros _ _ _ _).mono ?_; rintro e w' ⟨rfl, rfl⟩) | (go_at_call 117; refine (iUndriven _ _ _ _).mono ?_; rintro e w' ⟨rfl, rfl⟩) | (go_at_call 116; refine (iSettled _ _ _ _).mono ?_; rintro e w' ⟨rfl, rfl⟩))
  go_wp2
  refine bodyPost_ret (v := V n (k &&& ~~~h ||| p &&& ~~~q ||| (k &&& h &&& (p &&& q))) (k &&& h &&& (p &&& q))) (by simp [results, Try.results81, go_sem, V]) rfl ⟨rfl, ?_⟩
  repeat first | exact brf _ | refine bdr ?_ | refine bal ?_ _
set_option maxHeartbeats 400000 in
theorem iOr (n m : Nat) (k h p q : BitVec 64) (w : World) :
    Calls Try.prog 82 #[V n k h, V m p q] w fun e w' => e = .returned (V n (k &&& ~~~h &&& (p &&& ~~~q) ||| (k &&& h ||| p &&& q)) (k &&& h ||| p &&& q)) ∧ Below w.heap.size w w' := by
  unfold V
  go_enter Try.func82, Try.ntmps82
  go_wp2
  go_region_held3 (fun w' => w'.cell? ⟨w.heap.size, 0, none⟩ = some (.int .i64 n) ∧ w'.cell? ⟨w.heap.size, 1, none⟩ = some (.int .u64 (U k)) ∧ w'.cell? ⟨w.heap.size, 2, none⟩ = some (.int .u64 (U h)) ∧ w'.cell? ⟨w.heap.size + 1, 0, none⟩ = some (.int .i64 m) ∧ w'.cell? ⟨w.heap.size + 1, 1, none⟩ = some (.int .u64 (U p)) ∧ w'.cell? ⟨w.heap.size + 1, 2, none⟩ = some (.int .u64 (U q))) (first | (go_simp; done) | (refine ⟨?_, ?_, ?_, ?_, ?_, ?_⟩ <;> (refine cell_later hb ?_; go_simp)) | go_keep) (first | (go_at_call 114; refine (iOnes _ _ _ _).mono ?_; rintro e w' ⟨rfl, rfl⟩) | (go_at_call 115; refine (iZeros _ _ _ _).mono ?_; rintro e w' ⟨rfl, rfl⟩) | (go_at_call 117; refine (iUndriven _ _ _ _).mono ?_; rintro e w' ⟨rfl, rfl⟩) | (go_at_call 116; refine (iSettled _ _ _ _).mono ?_; rintro e w' ⟨rfl, rfl⟩))
  go_wp2
  refine bodyPost_ret (v := V n (k &&& ~~~h &&& (p &&& ~~~q) ||| (k &&& h ||| p &&& q)) (k &&& h ||| p &&& q)) (by simp [results, Try.results82, go_sem, V]) rfl ⟨rfl, ?_⟩
  repeat first | exact brf _ | refine bdr ?_ | refine bal ?_ _
set_option maxHeartbeats 400000 in
theorem iXor (n m : Nat) (k h p q : BitVec 64) (w : World) :
    Calls Try.prog 83 #[V n k h, V m p q] w fun e w' => e = .returned (V n (k &&& p &&& ~~~(h ^^^ q) ||| (k &&& p &&& (h ^^^ q))) (k &&& p &&& (h ^^^ q))) ∧ Below w.heap.size w w' := by
  unfold V
  go_enter Try.func83, Try.ntmps83
  go_wp2_with (go_at_call 116; refine (iSettled _ _ _ _).mono ?_; rintro e w' ⟨rfl, rfl⟩)
  refine bodyPost_ret (v := V n (k &&& p &&& ~~~(h ^^^ q) ||| (k &&& p &&& (h ^^^ q))) (k &&& p &&& (h ^^^ q))) (by simp [results, Try.results83, go_sem, V]) rfl ⟨rfl, ?_⟩
  repeat first | exact brf _ | refine bdr ?_ | refine bal ?_ _
set_option maxHeartbeats 400000 in
theorem iResolved (n m : Nat) (k h p q : BitVec 64) (w : World) :
    Calls Try.prog 76 #[V n k h, V m p q] w fun e w' => e = .returned (V n ((k &&& (q &&& ~~~p ||| k &&& p &&& ~~~(h ^^^ q))) ||| (p &&& (h &&& ~~~k))) ((h &&& (q &&& ~~~p ||| k &&& p &&& ~~~(h ^^^ q))) ||| (q &&& (h &&& ~~~k)))) ∧ Below w.heap.size w w' := by
  unfold V
  go_enter Try.func76, Try.ntmps76
  go_wp2
  refine bodyPost_ret (v := V n ((k &&& (q &&& ~~~p ||| k &&& p &&& ~~~(h ^^^ q))) ||| (p &&& (h &&& ~~~k))) ((h &&& (q &&& ~~~p ||| k &&& p &&& ~~~(h ^^^ q))) ||| (q &&& (h &&& ~~~k)))) (by simp [results, Try.results76, go_sem, V]) rfl ⟨rfl, ?_⟩
  repeat first | exact brf _ | refine bdr ?_ | refine bal ?_ _
set_option maxHeartbeats 400000 in
theorem iNot (n : Nat) (k h : BitVec 64) (w : World) :
    Calls Try.prog 103 #[V n k h] w fun e w' => e = .returned (V n (k &&& h ||| k &&& ~~~h) (k &&& ~~~h)) ∧ Below w.heap.size w w' := by
  unfold V
  go_enter Try.func103, Try.ntmps103
  go_wp2
  go_region_held3 (fun w' => w'.cell? ⟨w.heap.size, 0, none⟩ = some (.int .i64 n) ∧ w'.cell? ⟨w.heap.size, 1, none⟩ = some (.int .u64 (U k)) ∧ w'.cell? ⟨w.heap.size, 2, none⟩ = some (.int .u64 (U h))) (first | (go_simp; done) | (refine ⟨?_, ?_, ?_⟩ <;> (refine cell_later hb ?_; go_simp)) | go_keep) (first | (go_at_call 114; refine (iOnes _ _ _ _).mono ?_; rintro e w' ⟨rfl, rfl⟩) | (go_at_call 115; refine (iZeros _ _ _ _).mono ?_; rintro e w' ⟨rfl, rfl⟩) | (go_at_call 117; refine (iUndriven _ _ _ _).mono ?_; rintro e w' ⟨rfl, rfl⟩) | (go_at_call 116; refine (iSettled _ _ _ _).mono ?_; rintro e w' ⟨rfl, rfl⟩))
  go_wp2
  refine bodyPost_ret (v := V n (k &&& h ||| k &&& ~~~h) (k &&& ~~~h)) (by simp [results, Try.results103, go_sem, V]) rfl ⟨rfl, ?_⟩
  repeat first | exact brf _ | refine bdr ?_ | refine bal ?_ _
end Go.Proofs.Ytmbllgblbdfobaa
namespace Go.Proofs.Ytmbllgblbdfobaa
open Go.RowKit
attribute [local go_sem] U_and U_or U_xor U_andNot U_shl U_shr U_shl1 U_or1 U_and1 U_toNat U_nonneg U_low U_beq U_bne
theorem U_all : (18446744073709551615 : Int) = U (BitVec.allOnes 64) := rfl
set_option maxHeartbeats 400000 in
theorem iNumber (n : Nat) (x : BitVec 64) (hn : n ≤ 64) (w : World) :
    Calls Try.prog 77 #[.int .u64 (U x), .int .i64 n] w fun e w' => e = .returned (V n (Vb.ones n) (x &&& Vb.ones n)) ∧ Below w.heap.size w w' := by
  go_enter Try.func77, Try.ntmps77
  go_wp2_with fail
  rw [U_all]
  refine (iCut n (BitVec.allOnes 64) x hn _).mono ?_
  rintro e w1 ⟨rfl, hb⟩
  obtain ⟨hc, hf⟩ := bcell hb
  rw [BitVec.allOnes_and]
  unfold V
  go_wp2
  refine bodyPost_ret (v := V n (Vb.ones n) (x &&& Vb.ones n)) (by simp [results, Try.results77, go_sem, V, hc]) rfl ⟨rfl, ?_⟩
  repeat first | exact brf _ | refine bdr ?_ | refine bst ?_ (by first | exact Nat.le_refl _ | (simp; done) | (simp; omega)) _ | refine btr ?_ hb | refine bal ?_ _
set_option maxHeartbeats 400000 in
theorem iTruthVec (b : Bool) (w : World) :
    Calls Try.prog 113 #[.bool b] w fun e w' => e = .returned (V 1 1#64 (if b then 1#64 else 0#64)) ∧ Below w.heap.size w w' := by
  cases b
  · go_enter Try.func113, Try.ntmps113
    go_wp2_with fail
    refine (iNumber 1 0#64 (by omega) _).mono ?_
    rintro e w1 ⟨rfl, hb⟩
    obtain ⟨hc, hf⟩ := bcell hb
    rw [show (0#64 &&& Vb.ones 1) = 0#64 from rfl, show Vb.ones 1 = 1#64 from rfl]
    unfold V
    go_wp2
    refine bodyPost_ret (v := V 1 1#64 0#64) (by simp [results, Try.results113, go_sem, V, hc]) rfl ⟨rfl, ?_⟩
    repeat first | exact brf _ | refine bdr ?_ | refine bst ?_ (by first | exact Nat.le_refl _ | (simp; done) | (simp; omega)) _ | refine btr ?_ hb | refine bal ?_ _
  · go_enter Try.func113, Try.ntmps113
    go_wp2_with fail
    refine (iNumber 1 1#64 (by omega) _).mono ?_
    rintro e w1 ⟨rfl, hb⟩
    obtain ⟨hc, hf⟩ := bcell hb
    rw [show (1#64 &&& Vb.ones 1) = 1#64 from rfl, show Vb.ones 1 = 1#64 from rfl]
    unfold V
    go_wp2
    refine bodyPost_ret (v := V 1 1#64 1#64) (by simp [results, Try.results113, go_sem, V, hc]) rfl ⟨rfl, ?_⟩
    repeat first | exact brf _ | refine bdr ?_ | refine bst ?_ (by first | exact Nat.le_refl _ | (simp; done) | (simp; omega)) _ | refine btr ?_ hb | refine bal ?_ _
/-- The number with a sign that the program reads off a known vector. -/
def sgn (n : Nat) (h : BitVec 64) : Int := wrap64 (U (h <<< (64 - n))) / 2 ^ (64 - n)
theorem sgn_eq (n : Nat) (h : BitVec 64) : wrap64 (IntKind.u64.wrap (U h * 2 ^ (64 - n))) / 2 ^ (64 - n) = sgn n h := by
  have := U_shl h (64 - n)
  rw [Nat.min_eq_left (by omega)] at this
  rw [this]; rfl
theorem ret_i64 {a b : Int} (h : a = b) : Ending.returned (.int .i64 a) = .returned (.int .i64 b) := by rw [h]
set_option maxHeartbeats 400000 in
theorem iSigned (n : Nat) (k h : BitVec 64) (hn : n ≤ 64) (w : World) :
    Calls Try.prog 50 #[V n k h] w fun e w' => e = .returned (.int .i64 (sgn n h)) ∧ Below w.heap.size w w' := by
  unfold V
  go_enter Try.func50, Try.ntmps50
  go_wp2
  go_ret
  exact ⟨ret_i64 (sgn_eq n h), bal (brf _) _⟩
end Go.Proofs.Ytmbllgblbdfobaa
namespace Go.Proofs.Ytmbllgblbdfobaa
open Go.RowKit
/-- Block b holds a vector. -/
def VB (b n : Nat) (k h : BitVec 64) (W : World) : Prop := W.cell? ⟨b, 0, none⟩ = some (.int .i64 n) ∧ W.cell? ⟨b, 1, none⟩ = some (.int .u64 (U k)) ∧ W.cell? ⟨b, 2, none⟩ = some (.int .u64 (U h))
/-- Block b has three cells that may be written. -/
def RB (b : Nat) (W : World) : Prop := ∃ x y z, W.cell? ⟨b, 0, none⟩ = some x ∧ W.cell? ⟨b, 1, none⟩ = some y ∧ W.cell? ⟨b, 2, none⟩ = some z ∧ W.frozen? ⟨b, 0, none⟩ = false ∧ W.frozen? ⟨b, 1, none⟩ = false ∧ W.frozen? ⟨b, 2, none⟩ = false
theorem VB_later {b n : Nat} {k h : BitVec 64} {W w1 : World} (hb : Below W.heap.size W w1) (v : VB b n k h W) : VB b n k h w1 :=
  ⟨cell_later hb v.1, cell_later hb v.2.1, cell_later hb v.2.2⟩
theorem RB_later {b : Nat} {W w1 : World} (hb : Below W.heap.size W w1) (v : RB b W) : RB b w1 := by
  obtain ⟨x, y, z, c0, c1, c2, f0, f1, f2⟩ := v
  exact ⟨x, y, z, cell_later hb c0, cell_later hb c1, cell_later hb c2, frozen_later hb c0 f0, frozen_later hb c1 f1, frozen_later hb c2 f2⟩
theorem VB_alloc {b n : Nat} {k h : BitVec 64} {W : World} (v : VB b n k h W) (o : Obj) : VB b n k h (W.alloc o) := VB_later (bal (brf W) o) v
theorem RB_alloc {b : Nat} {W : World} (v : RB b W) (o : Obj) : RB b (W.alloc o) := RB_later (bal (brf W) o) v
theorem VB_new {n : Nat} {k h : BitVec 64} (W : World) : VB W.heap.size n k h (W.alloc (.cells #[.int .i64 n, .int .u64 (U k), .int .u64 (U h)] 60)) :=
  ⟨by rw [World.cell?_alloc_new]; rfl, by rw [World.cell?_alloc_new]; rfl, by rw [World.cell?_alloc_new]; rfl⟩
theorem RB_new (W : World) (x y z : Value) (t : TypeId) : RB W.heap.size (W.alloc (.cells #[x, y, z] t)) :=
  ⟨x, y, z, by rw [World.cell?_alloc_new]; rfl, by rw [World.cell?_alloc_new]; rfl, by rw [World.cell?_alloc_new]; rfl, by simp [go_sem], by simp [go_sem], by simp [go_sem]⟩
end Go.Proofs.Ytmbllgblbdfobaa
namespace Go.Proofs.Ytmbllgblbdfobaa
open Go.RowKit
attribute [local go_sem] U_and U_or U_xor U_andNot U_shl U_shr U_shl1 U_or1 U_and1 U_toNat U_nonneg U_low U_beq U_bne
/-- The letter of a vector's truth. -/
def tru (n : Nat) (k h : BitVec 64) : UInt8 := if k &&& h ≠ 0#64 then 49 else if k = Vb.ones n then 48 else 120
theorem U_ne0 (x : BitVec 64) : (U x != 0) = (x != 0#64) := U_bne x 0#64
set_option maxHeartbeats 400000 in
theorem iTruth (n : Nat) (k h : BitVec 64) (hn : n ≤ 64) (w : World) :
    Calls Try.prog 106 #[V n k h] w fun e w' => e = .returned (V 1 (Vb.kn [tru n k h]) (Vb.wh [tru n k h])) ∧ Below w.heap.size w w' := by
  by_cases h1 : k &&& h = 0#64
  · have hu : (U (k &&& h) != 0) = false := by rw [h1]; rfl
    by_cases h2 : k = Vb.ones n
    · rw [show tru n k h = 48 by unfold tru; rw [if_neg (by simp [h1]), if_pos h2], show Vb.kn [48] = 1#64 from rfl, show Vb.wh [48] = 0#64 from rfl]
      have hk : (k == Vb.ones n) = true := by simp [h2]
      unfold V
      have HK := hide hk
      clear h1 h2 hk
      go_enter Try.func106, Try.ntmps106
      go_wp2_with fail
      refine (iOnes _ _ _ _).mono ?_
      rintro e w1 ⟨rfl, rfl⟩
      go_wp2_with fail
      refine (iIsKnown _ _ _ hn _).mono ?_
      rw [unhide HK]
      rintro e w2 ⟨rfl, hb2⟩
      have R2 : RB (w.heap.size + 1) w2 := by refine RB_later hb2 ⟨.int .i64 0, .int .u64 0, .int .u64 0, ?_, ?_, ?_, ?_, ?_, ?_⟩ <;> go_simp
      go_wp2_with fail
      refine (iTruthVec false _).mono ?_
      rintro e w3 ⟨rfl, hb3⟩
      obtain ⟨x0, y0, z0, c0, c1, c2, f0, f1, f2⟩ := RB_later hb3 R2
      unfold V
      go_wp2
      refine bodyPost_ret (v := V 1 1#64 0#64) (by simp [results, Try.results106, go_sem, V, c0, c1, c2]) rfl ⟨rfl, ?_⟩
      repeat first | exact brf _ | refine bdr ?_ | refine bst ?_ (by first | exact Nat.le_refl _ | (simp; done) | (simp; omega)) _ | refine btr ?_ hb3 | refine btr ?_ hb2 | refine bal ?_ _
    · rw [show tru n k h = 120 by unfold tru; rw [if_neg (by simp [h1]), if_neg h2], show Vb.kn [120] = 0#64 from rfl, show Vb.wh [120] = 0#64 from rfl]
      have hk : (k == Vb.ones n) = false := by simp [h2]
      unfold V
      have HK := hide hk
      clear h1 h2 hk
      go_enter Try.func106, Try.ntmps106
      go_wp2_with fail
      refine (iOnes _ _ _ _).mono ?_
      rintro e w1 ⟨rfl, rfl⟩
      go_wp2_with fail
      refine (iIsKnown _ _ _ hn _).mono ?_
      rw [unhide HK]
      rintro e w2 ⟨rfl, hb2⟩
      have R2 : RB (w.heap.size + 1) w2 := by refine RB_later hb2 ⟨.int .i64 0, .int .u64 0, .int .u64 0, ?_, ?_, ?_, ?_, ?_, ?_⟩ <;> go_simp
      go_wp2_with fail
      refine (iUnknown 1 _).mono ?_
      rintro e w3 ⟨rfl, hb3⟩
      obtain ⟨x0, y0, z0, c0, c1, c2, f0, f1, f2⟩ := RB_later hb3 R2
      unfold V
      go_wp2
      refine bodyPost_ret (v := V 1 0#64 0#64) (by simp [results, Try.results106, go_sem, V, c0, c1, c2]) rfl ⟨rfl, ?_⟩
      repeat first | exact brf _ | refine bdr ?_ | refine bst ?_ (by first | exact Nat.le_refl _ | (simp; done) | (simp; omega)) _ | refine btr ?_ hb3 | refine btr ?_ hb2 | refine bal ?_ _
  · have hu : (U (k &&& h) != 0) = true := by rw [U_ne0]; simp [h1]
    rw [show tru n k h = 49 by unfold tru; rw [if_pos h1], show Vb.kn [49] = 1#64 from rfl, show Vb.wh [49] = 1#64 from rfl]
    unfold V
    clear h1
    go_enter Try.func106, Try.ntmps106
    go_wp2_with fail
    refine (iOnes _ _ _ _).mono ?_
    rintro e w1 ⟨rfl, rfl⟩
    have R2 : RB (w.heap.size + 1) (((w.alloc (.cells #[.int .i64 n, .int .u64 (U (k)), .int .u64 (U (h))] 60)).alloc (.cells #[.int .i64 0, .int .u64 0, .int .u64 0] 60)).alloc (.cells #[.int .i64 n, .int .u64 (U (k)), .int .u64 (U (h))] 60)) := by refine ⟨.int .i64 0, .int .u64 0, .int .u64 0, ?_, ?_, ?_, ?_, ?_, ?_⟩ <;> go_simp
    go_wp2_with fail
    refine (iTruthVec true _).mono ?_
    rintro e w3 ⟨rfl, hb3⟩
    obtain ⟨x0, y0, z0, c0, c1, c2, f0, f1, f2⟩ := RB_later hb3 R2
    unfold V
    go_wp2
    refine bodyPost_ret (v := V 1 1#64 1#64) (by simp [results, Try.results106, go_sem, V, c0, c1, c2]) rfl ⟨rfl, ?_⟩
    repeat first | exact brf _ | refine bdr ?_ | refine bst ?_ (by first | exact Nat.le_refl _ | (simp; done) | (simp; omega)) _ | refine btr ?_ hb3 | refine bal ?_ _
set_option maxHeartbeats 400000 in
theorem iTwoOf (a b : ByteArray) (w : World) (ha : a.size ≤ maxLen) (hb : b.size ≤ maxLen) (va : Vb.okV (L a) = true) (vb : Vb.okV (L b) = true) :
    Calls Try.prog 51 #[.string a, .string b] w fun e w' => e = .returned (.tuple #[V a.size (Vb.kn (L a)) (Vb.wh (L a)), V b.size (Vb.kn (L b)) (Vb.wh (L b)), .bool true]) ∧ Below w.heap.size w w' := by
  generalize hK : Vb.kn (L a) = K
  generalize hH : Vb.wh (L a) = H
  generalize hP : Vb.kn (L b) = P
  generalize hQ : Vb.wh (L b) = Q
  have HK := hide hK
  have HH := hide hH
  have HP := hide hP
  have HQ := hide hQ
  clear hK hH hP hQ
  have VA := hide va
  have VBB := hide vb
  clear va vb
  go_enter Try.func51, Try.ntmps51
  go_wp2_with fail
  refine (iVecOf a _ ha (unhide VA)).mono ?_
  rintro e w1 ⟨rfl, hb1⟩
  have hz1 : w.heap.size + 1 < w1.heap.size := by have := hb1.size; simp at this; omega
  have Ra : RB w.heap.size w1 := by refine RB_later hb1 ⟨.int .i64 0, .int .u64 0, .int .u64 0, ?_, ?_, ?_, ?_, ?_, ?_⟩ <;> go_simp
  have Rb : RB (w.heap.size + 1) w1 := by refine RB_later hb1 ⟨.int .i64 0, .int .u64 0, .int .u64 0, ?_, ?_, ?_, ?_, ?_, ?_⟩ <;> go_simp
  rw [unhide HK, unhide HH]
  unfold V
  go_wp2_with fail
  refine (iVecOf b _ hb (unhide VBB)).mono ?_
  rintro e w2 ⟨rfl, hb2⟩
  rw [unhide HP, unhide HQ]
  have hz2 : w1.heap.size < w2.heap.size := by have := hb2.size; simp at this; omega
  have hz3 : w.heap.size < w2.heap.size := by omega
  have hz4 : w.heap.size + 1 < w2.heap.size := by omega
  obtain ⟨u0, u1, u2⟩ : VB w1.heap.size a.size K H w2 := VB_later hb2 (VB_new w1)
  obtain ⟨x0, y0, z0, c0, c1, c2, f0, f1, f2⟩ := RB_later hb2 (RB_alloc Ra (.cells #[.int .i64 a.size, .int .u64 (U K), .int .u64 (U H)] 60))
  obtain ⟨x1, y1, z1, d0, d1, d2, g0, g1, g2⟩ := RB_later hb2 (RB_alloc Rb (.cells #[.int .i64 a.size, .int .u64 (U K), .int .u64 (U H)] 60))
  clear Ra Rb
  have B2 : Below w.heap.size w w2 := btr (bal (btr (bal (bal (brf w) _) _) hb1) _) hb2
  unfold V
  go_wp2
  go_region
  go_wp2
  refine bodyPost_ret (v := .tuple #[V a.size K H, V b.size P Q, .bool true]) (by simp [results, Try.results51, go_sem, V, c0, c1, c2, d0, d1, d2, hz3, hz4]) rfl ⟨rfl, ?_⟩
  exact bdr (bal (bst (bst (bst (bst (bst (bst B2 (Nat.le_refl _) _) (Nat.le_refl _) _) (Nat.le_refl _) _) (Nat.le_succ _) _) (Nat.le_succ _) _) (Nat.le_succ _) _) _)
theorem iVecAny (s : ByteArray) (w : World) (hs : s.size ≤ maxLen) :
    Calls Try.prog 48 #[.string s] w fun e w' => (∃ n k h, e = .returned (.tuple #[V n k h, .bool (Vb.okV (L s))])) ∧ Below w.heap.size w w' := by
  cases hv : Vb.okV (L s)
  · exact (iVecOf_no s w hs hv).mono fun _ _ ⟨h, h'⟩ => ⟨⟨_, _, _, h⟩, h'⟩
  · exact (iVecOf s w hs hv).mono fun _ _ ⟨h, h'⟩ => ⟨⟨_, _, _, h⟩, h'⟩
set_option maxHeartbeats 400000 in
theorem iTwoOf_no (a b : ByteArray) (w : World) (ha : a.size ≤ maxLen) (hb : b.size ≤ maxLen) (hv : (Vb.okV (L a) && Vb.okV (L b)) = false) :
    Calls Try.prog 51 #[.string a, .string b] w fun e w' => (∃ n k h m p q, e = .returned (.tuple #[V n k h, V m p q, .bool false])) ∧ Below w.heap.size w w' := by
  generalize hx : Vb.okV (L a) = x at hv
  generalize hy : Vb.okV (L b) = y at hv
  have HX := hide hx
  have HY := hide hy
  clear hx hy
  go_enter Try.func51, Try.ntmps51
  go_wp2_with fail
  refine (iVecAny a _ ha).mono ?_
  rw [unhide HX]
  rintro e w1 ⟨⟨na, K, H, rfl⟩, hb1⟩
  have hz1 : w.heap.size + 1 < w1.heap.size := by have := hb1.size; simp at this; omega
  have Ra : RB w.heap.size w1 := by refine RB_later hb1 ⟨.int .i64 0, .int .u64 0, .int .u64 0, ?_, ?_, ?_, ?_, ?_, ?_⟩ <;> go_simp
  have Rb : RB (w.heap.size + 1) w1 := by refine RB_later hb1 ⟨.int .i64 0, .int .u64 0, .int .u64 0, ?_, ?_, ?_, ?_, ?_, ?_⟩ <;> go_simp
  unfold V
  go_wp2_with fail
  refine (iVecAny b _ hb).mono ?_
  rw [unhide HY]
  rintro e w2 ⟨⟨nb, P, Q, rfl⟩, hb2⟩
  have hz2 : w1.heap.size < w2.heap.size := by have := hb2.size; simp at this; omega
  have hz3 : w.heap.size < w2.heap.size := by omega
  have hz4 : w.heap.size + 1 < w2.heap.size := by omega
  obtain ⟨u0, u1, u2⟩ : VB w1.heap.size na K H w2 := VB_later hb2 (VB_new w1)
  obtain ⟨x0, y0, z0, c0, c1, c2, f0, f1, f2⟩ := RB_later hb2 (RB_alloc Ra (.cells #[.int .i64 na, .int .u64 (U K), .int .u64 (U H)] 60))
  obtain ⟨x1, y1, z1, d0, d1, d2, g0, g1, g2⟩ := RB_later hb2 (RB_alloc Rb (.cells #[.int .i64 na, .int .u64 (U K), .int .u64 (U H)] 60))
  clear Ra Rb
  have B2 : Below w.heap.size w w2 := btr (bal (btr (bal (bal (brf w) _) _) hb1) _) hb2
  unfold V
  cases x
  · go_wp2
    go_region
    go_wp2
    refine bodyPost_ret (v := .tuple #[V na K H, V nb P Q, .bool false]) (by simp [results, Try.results51, go_sem, V, c0, c1, c2, d0, d1, d2, hz3, hz4]) rfl ⟨⟨_, _, _, _, _, _, rfl⟩, ?_⟩
    exact bdr (bal (bst (bst (bst (bst (bst (bst B2 (Nat.le_refl _) _) (Nat.le_refl _) _) (Nat.le_refl _) _) (Nat.le_succ _) _) (Nat.le_succ _) _) (Nat.le_succ _) _) _)
  · rw [Bool.true_and] at hv
    subst hv
    go_wp2
    go_region
    go_wp2
    refine bodyPost_ret (v := .tuple #[V na K H, V nb P Q, .bool false]) (by simp [results, Try.results51, go_sem, V, c0, c1, c2, d0, d1, d2, hz3, hz4]) rfl ⟨⟨_, _, _, _, _, _, rfl⟩, ?_⟩
    exact bdr (bal (bst (bst (bst (bst (bst (bst B2 (Nat.le_refl _) _) (Nat.le_refl _) _) (Nat.le_refl _) _) (Nat.le_succ _) _) (Nat.le_succ _) _) (Nat.le_succ _) _) _)
end Go.Proofs.Ytmbllgblbdfobaa
namespace Go.Proofs.Ytmbllgblbdfobaa
open Go.RowKit
attribute [local go_sem] U_and U_or U_xor U_andNot U_shl U_shr U_shl1 U_or1 U_and1 U_toNat U_nonneg U_low U_beq U_bne
set_option maxHeartbeats 400000 in
theorem iChoose1 (n na nb : Nat) (k h p q r s : BitVec 64) (hn : n ≤ 64) (w : World) (ht : tru n k h = 49) :
    Calls Try.prog 73 #[V n k h, V na p q, V nb r s] w fun e w' => e = .returned (V na p q) ∧ Below w.heap.size w w' := by
  have HT := hide ht
  clear ht
  unfold V
  go_enter Try.func73, Try.ntmps73
  go_wp2_with fail
  refine (iTruth _ _ _ hn _).mono ?_
  rw [unhide HT, show Vb.kn [49] = 1#64 from rfl, show Vb.wh [49] = 1#64 from rfl]
  rintro e w1 ⟨rfl, hb1⟩
  have B1 : Below w.heap.size w w1 := btr (bal (bal (bal (bal (brf w) _) _) _) _) hb1
  have Va : VB (w.heap.size + 1) na p q w1 := by refine VB_later hb1 ⟨?_, ?_, ?_⟩ <;> go_simp
  have Vc : VB (w.heap.size + 1 + 1) nb r s w1 := by refine VB_later hb1 ⟨?_, ?_, ?_⟩ <;> go_simp
  have Ra : RB (w.heap.size + 1 + 1 + 1) w1 := by refine RB_later hb1 ⟨.int .i64 0, .int .u64 0, .int .u64 0, ?_, ?_, ?_, ?_, ?_, ?_⟩ <;> go_simp
  have hz1 : w.heap.size + 1 + 1 + 1 < w1.heap.size := by have := hb1.size; simp at this; omega
  have hz2 : w.heap.size + 1 + 1 < w1.heap.size := by omega
  have hz3 : w.heap.size + 1 < w1.heap.size := by omega
  have hz4 : w.heap.size < w1.heap.size := by omega
  obtain ⟨u0, u1, u2⟩ := Va
  obtain ⟨v0, v1, v2⟩ := Vc
  obtain ⟨x0, y0, z0, c0, c1, c2, f0, f1, f2⟩ := Ra
  unfold V
  have hu : (U (1#64 &&& 1#64) != 0) = true := rfl
  go_wp2_with (first | (go_at_call 114; refine (iOnes _ _ _ _).mono ?_; rintro e w2 ⟨rfl, rfl⟩) | (go_at_call 115; refine (iZeros _ _ _ _).mono ?_; rintro e w2 ⟨rfl, rfl⟩))
  refine bodyPost_ret (v := V na p q) (by simp [results, Try.results73, go_sem, V, c0, c1, c2, hz1, hz2]) rfl ⟨rfl, ?_⟩
  have h3 : w.heap.size ≤ w.heap.size + 1 + 1 + 1 := by omega
  exact bal (bal (bst (bst (bst B1 h3 _) h3 _) h3 _) _) _
set_option maxHeartbeats 400000 in
theorem iChoose0 (n na nb : Nat) (k h p q r s : BitVec 64) (hn : n ≤ 64) (w : World) (ht : tru n k h = 48) :
    Calls Try.prog 73 #[V n k h, V na p q, V nb r s] w fun e w' => e = .returned (V nb r s) ∧ Below w.heap.size w w' := by
  have HT := hide ht
  clear ht
  unfold V
  go_enter Try.func73, Try.ntmps73
  go_wp2_with fail
  refine (iTruth _ _ _ hn _).mono ?_
  rw [unhide HT, show Vb.kn [48] = 1#64 from rfl, show Vb.wh [48] = 0#64 from rfl]
  rintro e w1 ⟨rfl, hb1⟩
  have B1 : Below w.heap.size w w1 := btr (bal (bal (bal (bal (brf w) _) _) _) _) hb1
  have Va : VB (w.heap.size + 1) na p q w1 := by refine VB_later hb1 ⟨?_, ?_, ?_⟩ <;> go_simp
  have Vc : VB (w.heap.size + 1 + 1) nb r s w1 := by refine VB_later hb1 ⟨?_, ?_, ?_⟩ <;> go_simp
  have Ra : RB (w.heap.size + 1 + 1 + 1) w1 := by refine RB_later hb1 ⟨.int .i64 0, .int .u64 0, .int .u64 0, ?_, ?_, ?_, ?_, ?_, ?_⟩ <;> go_simp
  have hz1 : w.heap.size + 1 + 1 + 1 < w1.heap.size := by have := hb1.size; simp at this; omega
  have hz2 : w.heap.size + 1 + 1 < w1.heap.size := by omega
  have hz3 : w.heap.size + 1 < w1.heap.size := by omega
  have hz4 : w.heap.size < w1.heap.size := by omega
  obtain ⟨u0, u1, u2⟩ := Va
  obtain ⟨v0, v1, v2⟩ := Vc
  obtain ⟨x0, y0, z0, c0, c1, c2, f0, f1, f2⟩ := Ra
  unfold V
  have hu : (U (1#64 &&& 0#64) != 0) = false := rfl
  have hv : (U (1#64 &&& ~~~0#64) != 0) = true := rfl
  go_wp2_with (first | (go_at_call 114; refine (iOnes _ _ _ _).mono ?_; rintro e w2 ⟨rfl, rfl⟩) | (go_at_call 115; refine (iZeros _ _ _ _).mono ?_; rintro e w2 ⟨rfl, rfl⟩))
  refine bodyPost_ret (v := V nb r s) (by simp [results, Try.results73, go_sem, V, c0, c1, c2, hz1, hz2, hz3]) rfl ⟨rfl, ?_⟩
  have h3 : w.heap.size ≤ w.heap.size + 1 + 1 + 1 := by omega
  exact bal (bal (bal (bst (bst (bst B1 h3 _) h3 _) h3 _) _) _) _
set_option maxHeartbeats 400000 in
theorem iChoosex (n na nb : Nat) (k h p q r s : BitVec 64) (hn : n ≤ 64) (w : World) (ht : tru n k h = 120) :
    Calls Try.prog 73 #[V n k h, V na p q, V nb r s] w fun e w' => e = .returned (V na (p &&& ~~~q &&& (r &&& ~~~s) ||| (p &&& q &&& (r &&& s))) (p &&& q &&& (r &&& s))) ∧ Below w.heap.size w w' := by
  have HT := hide ht
  clear ht
  unfold V
  go_enter Try.func73, Try.ntmps73
  go_wp2_with fail
  refine (iTruth _ _ _ hn _).mono ?_
  rw [unhide HT, show Vb.kn [120] = 0#64 from rfl, show Vb.wh [120] = 0#64 from rfl]
  rintro e w1 ⟨rfl, hb1⟩
  have B1 : Below w.heap.size w w1 := btr (bal (bal (bal (bal (brf w) _) _) _) _) hb1
  have Va : VB (w.heap.size + 1) na p q w1 := by refine VB_later hb1 ⟨?_, ?_, ?_⟩ <;> go_simp
  have Vc : VB (w.heap.size + 1 + 1) nb r s w1 := by refine VB_later hb1 ⟨?_, ?_, ?_⟩ <;> go_simp
  have Ra : RB (w.heap.size + 1 + 1 + 1) w1 := by refine RB_later hb1 ⟨.int .i64 0, .int .u64 0, .int .u64 0, ?_, ?_, ?_, ?_, ?_, ?_⟩ <;> go_simp
  have hz1 : w.heap.size + 1 + 1 + 1 < w1.heap.size := by have := hb1.size; simp at this; omega
  have hz2 : w.heap.size + 1 + 1 < w1.heap.size := by omega
  have hz3 : w.heap.size + 1 < w1.heap.size := by omega
  have hz4 : w.heap.size < w1.heap.size := by omega
  have hp1 : w.heap.size < w1.heap.size + 1 := by omega
  have hp2 : w.heap.size < w1.heap.size + 1 + 1 := by omega
  have hp3 : w.heap.size < w1.heap.size + 1 + 1 + 1 := by omega
  have hp4 : w.heap.size < w1.heap.size + 1 + 1 + 1 + 1 := by omega
  have hp5 : w.heap.size < w1.heap.size + 1 + 1 + 1 + 1 + 1 := by omega
  have hp6 : w.heap.size < w1.heap.size + 1 + 1 + 1 + 1 + 1 + 1 := by omega
  have hp7 : w.heap.size < w1.heap.size + 1 + 1 + 1 + 1 + 1 + 1 + 1 := by omega
  have hp8 : w.heap.size < w1.heap.size + 1 + 1 + 1 + 1 + 1 + 1 + 1 + 1 := by omega
  obtain ⟨u0, u1, u2⟩ := Va
  obtain ⟨v0, v1, v2⟩ := Vc
  obtain ⟨x0, y0, z0, c0, c1, c2, f0, f1, f2⟩ := Ra
  unfold V
  have hu : (U (0#64 &&& 0#64) != 0) = false := rfl
  have hv : (U (0#64 &&& ~~~0#64) != 0) = false := rfl
  go_wp2_with (first | (go_at_call 114; refine (iOnes _ _ _ _).mono ?_; rintro e w2 ⟨rfl, rfl⟩) | (go_at_call 115; refine (iZeros _ _ _ _).mono ?_; rintro e w2 ⟨rfl, rfl⟩))
  go_region_held3 (fun w' => w'.cell? ⟨w.heap.size + 1, 0, none⟩ = some (.int .i64 na) ∧ w'.cell? ⟨w.heap.size + 1, 1, none⟩ = some (.int .u64 (U p)) ∧ w'.cell? ⟨w.heap.size + 1, 2, none⟩ = some (.int .u64 (U q)) ∧ w'.cell? ⟨w.heap.size + 1 + 1, 0, none⟩ = some (.int .i64 nb) ∧ w'.cell? ⟨w.heap.size + 1 + 1, 1, none⟩ = some (.int .u64 (U r)) ∧ w'.cell? ⟨w.heap.size + 1 + 1, 2, none⟩ = some (.int .u64 (U s))) (first | (go_simp; done) | (refine ⟨?_, ?_, ?_, ?_, ?_, ?_⟩ <;> (refine cell_later hb ?_; go_simp)) | go_keep) (first | (go_at_call 114; refine (iOnes _ _ _ _).mono ?_; rintro e w' ⟨rfl, rfl⟩) | (go_at_call 115; refine (iZeros _ _ _ _).mono ?_; rintro e w' ⟨rfl, rfl⟩) | (go_at_call 116; refine (iSettled _ _ _ _).mono ?_; rintro e w' ⟨rfl, rfl⟩))
  go_wp2
  refine bodyPost_ret (v := V na (p &&& ~~~q &&& (r &&& ~~~s) ||| (p &&& q &&& (r &&& s))) (p &&& q &&& (r &&& s))) (by simp [results, Try.results73, go_sem, V, c0, c1, c2, hz1, hz2, hz3, hz4, hp1, hp2, hp3, hp4]) rfl ⟨rfl, ?_⟩
  have h3 : w.heap.size ≤ w.heap.size + 1 + 1 + 1 := by omega
  exact bdr (bal (bal (bal (bal (bal (bal (bal (bal (bst (bst (bst B1 h3 _) h3 _) h3 _) _) _) _) _) _) _) _) _)

end Go.Proofs.Ytmbllgblbdfobaa
