/- Plain facts: the operations on uint64, as the walk writes them, over words of 64 bits. -/
import Derived.WalkKit
import Derived.Laws.BitsAllLaws
import Derived.Test.YtgkfhaahcedbpaaProg
import Derived.Test.YtgkfhaahcedbpaaBits
import Derived.WalkSpells
import Derived.WalkLawsBesides
namespace Go.Proofs.Ytgkfhaahcedbpaa
open Go

/-- A word of 64 bits as the number that the walk holds. -/
def U (x : BitVec 64) : Int := (x.toNat : Int)
theorem U_nonneg (x : BitVec 64) : 0 ≤ U x := by unfold U; omega
theorem U_lt (x : BitVec 64) : U x < 18446744073709551616 := by unfold U; have := x.isLt; omega
theorem U_toNat (x : BitVec 64) : (U x).toNat = x.toNat := by unfold U; omega
theorem U_inj {x y : BitVec 64} : (U x = U y) ↔ x = y := by
  unfold U; constructor
  · intro h; exact BitVec.eq_of_toNat_eq (by omega)
  · intro h; rw [h]
theorem U_beq (x y : BitVec 64) : (U x == U y) = (x == y) := by
  rw [Bool.eq_iff_iff]; simp [U_inj]
theorem U_bne (x y : BitVec 64) : (U x != U y) = (x != y) := by
  simp [bne, U_beq]
theorem U_ofNat (n : Nat) : U (BitVec.ofNat 64 n) = ((n % 18446744073709551616 : Nat) : Int) := by
  unfold U; rw [BitVec.toNat_ofNat]
theorem U_and (x y : BitVec 64) : bits .and .u64 (U x) (U y) = U (x &&& y) := by
  unfold U; rw [u64_and_nat _ _ (by have := x.isLt; omega) (by have := y.isLt; omega), BitVec.toNat_and]
theorem U_or (x y : BitVec 64) : bits .or .u64 (U x) (U y) = U (x ||| y) := by
  unfold U; rw [u64_or_nat _ _ (by have := x.isLt; omega) (by have := y.isLt; omega), BitVec.toNat_or]
theorem U_xor (x y : BitVec 64) : bits .xor .u64 (U x) (U y) = U (x ^^^ y) := by
  unfold U; rw [u64_xor_nat _ _ (by have := x.isLt; omega) (by have := y.isLt; omega), BitVec.toNat_xor]
theorem U_andNot (x y : BitVec 64) : bits .andNot .u64 (U x) (U y) = U (x &&& ~~~y) := by
  unfold U; rw [u64_andNot_nat _ _ (by have := x.isLt; omega) (by have := y.isLt; omega), BitVec.toNat_and, BitVec.toNat_not]
theorem U_wrap (n : Int) : IntKind.u64.wrap n = U (BitVec.ofInt 64 n) := by
  unfold U; rw [IntKind.wrap_u64, BitVec.toNat_ofInt]; omega
theorem U_shl (x : BitVec 64) (n : Nat) : IntKind.u64.wrap (U x * 2 ^ min n 64) = U (x <<< n) := by
  rw [IntKind.wrap_u64]; unfold U
  rw [BitVec.toNat_shiftLeft, Nat.shiftLeft_eq]
  by_cases h : n ≤ 64
  · rw [Nat.min_eq_left h, show (2 ^ 64 : Nat) = 18446744073709551616 from rfl, Int.natCast_emod, Int.natCast_mul, Int.natCast_pow]; rfl
  · rw [Nat.min_eq_right (by omega)]
    have e : x.toNat * 2 ^ n % 2 ^ 64 = 0 := by
      have : 2 ^ n = 2 ^ 64 * 2 ^ (n - 64) := by rw [← Nat.pow_add]; congr 1; omega
      rw [this, ← Nat.mul_assoc, Nat.mul_right_comm]; exact Nat.mul_mod_left _ _
    rw [e]; omega
theorem U_shr (x : BitVec 64) (n : Nat) : U x / 2 ^ min n 64 = U (x >>> n) := by
  unfold U
  rw [BitVec.toNat_ushiftRight, Nat.shiftRight_eq_div_pow]
  by_cases h : n ≤ 64
  · rw [Nat.min_eq_left h, Int.natCast_ediv, Int.natCast_pow]; rfl
  · rw [Nat.min_eq_right (by omega)]
    have e : x.toNat / 2 ^ n = 0 := by
      apply Nat.div_eq_of_lt
      exact Nat.lt_of_lt_of_le x.isLt (Nat.pow_le_pow_right (by omega) (by omega))
    rw [e]; have := x.isLt; omega
theorem U_shl1 (x : BitVec 64) : IntKind.u64.wrap (U x * 2) = U (x <<< 1) := U_shl x 1
theorem U_or1 (x : BitVec 64) : bits .or .u64 (U x) 1 = U (x ||| 1#64) := U_or x 1#64
theorem U_and1 (x : BitVec 64) : bits .and .u64 (U x) 1 = U (x &&& 1#64) := U_and x 1#64
theorem U_0 : (0 : Int) = U 0#64 := rfl
theorem U_1 : (1 : Int) = U 1#64 := rfl
theorem U_low (c : Nat) : IntKind.u64.wrap (IntKind.u64.wrap (2 ^ min c 64) - 1) = U (BitVec.ofNat 64 (2 ^ c - 1)) := by
  rw [IntKind.wrap_u64, IntKind.wrap_u64]; unfold U
  rw [BitVec.toNat_ofNat]
  by_cases h : c < 64
  · rw [Nat.min_eq_left (by omega)]
    have h1 : 2 ^ c < 2 ^ 64 := Nat.pow_lt_pow_right (by omega) h
    have h2 : 0 < 2 ^ c := Nat.two_pow_pos c
    have e : ((2 : Int) ^ c) = ((2 ^ c : Nat) : Int) := by rw [Int.natCast_pow]; rfl
    rw [e]; omega
  · rw [Nat.min_eq_right (by omega)]
    have e : 2 ^ c = 2 ^ 64 * 2 ^ (c - 64) := by rw [← Nat.pow_add]; congr 1; omega
    have h2 : 0 < 2 ^ (c - 64) := Nat.two_pow_pos _
    rw [e]; omega
end Go.Proofs.Ytgkfhaahcedbpaa
namespace Go.Proofs.Ytgkfhaahcedbpaa
open Go.RowKit
theorem hide {p : Prop} (h : p) : Hid p := h
theorem unhide {p : Prop} (h : Hid p) : p := h
theorem bal {w w' : World} (h : Below w.heap.size w w') (o : Obj) : Below w.heap.size w (w'.alloc o) := h.alloc h.size o
theorem btr {a b c : World} (h : Below a.heap.size a b) (k : Below b.heap.size b c) : Below a.heap.size a c := h.trans (k.mono h.size)
theorem bst {w w' : World} (h : Below w.heap.size w w') {a : Addr} (ha : w.heap.size ≤ a.block) (v : Value) : Below w.heap.size w (w'.setCell a v) := h.setCell ha v
theorem brf (w : World) : Below w.heap.size w w := Below.refl _ _
theorem bcell {W w1 : World} (hb : Below W.heap.size W w1) : (∀ b o, b < W.heap.size → w1.cell? ⟨b, o, none⟩ = W.cell? ⟨b, o, none⟩) ∧ (∀ b o, b < W.heap.size → w1.frozen? ⟨b, o, none⟩ = W.frozen? ⟨b, o, none⟩) :=
  ⟨fun b o h => hb.cell (p := ⟨b, o, none⟩) h, fun b o h => hb.frozen (p := ⟨b, o, none⟩) h⟩
theorem frozen_later {W w1 : World} {b o : Nat} {v : Value} (hb : Below W.heap.size W w1) (hc : W.cell? ⟨b, o, none⟩ = some v) (hf : W.frozen? ⟨b, o, none⟩ = false) : w1.frozen? ⟨b, o, none⟩ = false := by
  rw [hb.frozen (p := ⟨b, o, none⟩) (World.block_lt_of_cell? _ _ hc)]; exact hf
theorem bdr {w w' : World} (h : Below w.heap.size w w') : Below w.heap.size w w'.drew := h.drew
theorem keep1 {X : World} {o : Obj} {a : Addr} {v : Value} (h : X.drew.cell? a = some v) : (X.alloc o).drew.cell? a = some v := cell_later (w := X) (wx := X.alloc o) (bal (brf X) o) h
/-- A string's bytes. -/
def L (s : ByteArray) : List UInt8 := s.data.toList
/-- The string of some bytes. -/
def S (l : List UInt8) : ByteArray := ⟨l.toArray⟩
theorem L_S (l : List UInt8) : L (S l) = l := by simp [L, S]
theorem S_L (s : ByteArray) : S (L s) = s := by cases s; simp [L, S]
theorem L_inj {a b : ByteArray} (h : L a = L b) : a = b := by rw [← S_L a, ← S_L b, h]
theorem L_len (s : ByteArray) : (L s).length = s.size := by simp [L]
theorem S_size (l : List UInt8) : (S l).size = l.length := by rw [← L_len, L_S]
theorem L_get (s : ByteArray) (k : Nat) (h : k < s.size) : s[k] = (L s)[k]'(by rw [L_len]; exact h) := rfl
theorem L_take (s : ByteArray) (k : Nat) (h : k < s.size) : (L s).take (k + 1) = (L s).take k ++ [s[k]] := by
  unfold L; rw [List.take_succ_eq_append_getElem (by simpa using h)]; rfl
theorem L_drop (s : ByteArray) (k : Nat) (h : k < s.size) : (L s).drop k = s[k] :: (L s).drop (k + 1) := by
  unfold L; rw [List.drop_eq_getElem_cons (by simpa using h)]; rfl
theorem L_take_all (s : ByteArray) (k : Nat) (h : s.size ≤ k) : (L s).take k = L s := by
  rw [List.take_of_length_le (by rw [L_len]; exact h)]
theorem L_mem (s : ByteArray) (k : Nat) (h : k < s.size) : s[k] ∈ L s := by
  rw [L_get]; exact List.getElem_mem _
theorem ret_bool {a b : Bool} (h : a = b) : Ending.returned (.bool a) = .returned (.bool b) := by rw [h]
theorem ret_str {a b : ByteArray} (h : a = b) : Ending.returned (.string a) = .returned (.string b) := by rw [h]
theorem u8_eq {c : UInt8} {n : Nat} (h : (c.toNat : Int) = n) (hn : n < 256) : c = UInt8.ofNat n := by
  apply UInt8.toNat_inj.1; rw [UInt8.toNat_ofNat']; omega
theorem u8_ne {c : UInt8} (n : Nat) (hn : n < 256) (h : c ≠ UInt8.ofNat n) : ((c.toNat : Int) != n) = true := by
  rw [bne_iff_ne]; intro e; exact h (u8_eq e hn)
theorem u8_nq {c : UInt8} (n : Nat) (hn : n < 256) (h : c ≠ UInt8.ofNat n) : ((c.toNat : Int) == n) = false := by
  rw [beq_eq_false_iff_ne]; intro e; exact h (u8_eq e hn)
theorem cls (c : UInt8) : c = 48 ∨ c = 49 ∨ c = 120 ∨ c = 122 ∨ (Vb.isV c = false ∧ ((c.toNat : Int) != 48) = true ∧ ((c.toNat : Int) != 49) = true ∧ ((c.toNat : Int) != 120) = true ∧ ((c.toNat : Int) != 122) = true) := by
  by_cases h1 : c = 48
  · exact .inl h1
  by_cases h2 : c = 49
  · exact .inr (.inl h2)
  by_cases h3 : c = 120
  · exact .inr (.inr (.inl h3))
  by_cases h4 : c = 122
  · exact .inr (.inr (.inr (.inl h4)))
  exact .inr (.inr (.inr (.inr ⟨by simp [Vb.isV, h1, h2, h3, h4], u8_ne 48 (by omega) h1, u8_ne 49 (by omega) h2, u8_ne 120 (by omega) h3, u8_ne 122 (by omega) h4⟩)))
theorem okV_iff (s : ByteArray) : Vb.okV (L s) = true ↔ 1 ≤ s.size ∧ s.size ≤ 64 ∧ (L s).all Vb.isV = true := by
  simp only [Vb.okV, L_len, Bool.and_eq_true, decide_eq_true_eq]
theorem all_of {p : UInt8 → Bool} {s : ByteArray} (h : (L s).all p = true) (k : Nat) (hk : k < s.size) : p s[k] = true :=
  List.all_eq_true.1 h _ (L_mem s k hk)
theorem not_all {p : UInt8 → Bool} {s : ByteArray} (k : Nat) (hk : k < s.size) (h : p s[k] = false) : (L s).all p = false := by
  rw [← Bool.not_eq_true]; intro e; rw [all_of e k hk] at h; cases h
theorem all_step {p : UInt8 → Bool} {s : ByteArray} (k : Nat) (hk : k < s.size) (h : p s[k] = true) (ha : ((L s).take k).all p = true) : ((L s).take (k + 1)).all p = true := by
  rw [L_take s k hk, List.all_append, ha]; simp [h]
end Go.Proofs.Ytgkfhaahcedbpaa
namespace Go.Proofs.Ytgkfhaahcedbpaa
open Go.RowKit
/-- A vector as the walk holds it: its width and two words. -/
def V (n : Nat) (k h : BitVec 64) : Value := .agg #[.int .i64 n, .int .u64 (U k), .int .u64 (U h)]
theorem cells_eq {a b c d : Int} {n : Value} {W : World} (h1 : a = c) (h2 : b = d) : W.alloc (.cells #[n, .int .u64 a, .int .u64 b] 89) = W.alloc (.cells #[n, .int .u64 c, .int .u64 d] 89) := by rw [h1, h2]
theorem kn_step (s : ByteArray) (k : Nat) (h : k < s.size) (c : UInt8) (e : s[k] = c) : Vb.kn ((L s).take (k + 1)) = Vb.push Vb.knB (Vb.kn ((L s).take k)) c := by
  rw [L_take s k h, Vb.kn, Vb.word_snoc, e]; rfl
theorem wh_step (s : ByteArray) (k : Nat) (h : k < s.size) (c : UInt8) (e : s[k] = c) : Vb.wh ((L s).take (k + 1)) = Vb.push Vb.whB (Vb.wh ((L s).take k)) c := by
  rw [L_take s k h, Vb.wh, Vb.word_snoc, e]; rfl
theorem push_1 (p : UInt8 → Bool) (a : BitVec 64) (c : UInt8) (h : p c = true) : bits .or .u64 (IntKind.u64.wrap (U a * 2)) 1 = U (Vb.push p a c) := by
  rw [U_shl1, U_or1, Vb.push, if_pos h]
theorem push_0 (p : UInt8 → Bool) (a : BitVec 64) (c : UInt8) (h : p c = false) : IntKind.u64.wrap (U a * 2) = U (Vb.push p a c) := by
  rw [U_shl1, Vb.push, if_neg (by simp [h])]; simp
abbrev W0 (w : World) : World := w.alloc (.cells #[.int .i64 0, .int .u64 0, .int .u64 0] 89)

set_option maxHeartbeats 400000 in
theorem iVecOf (s : ByteArray) (w : World) (hs : s.size ≤ maxLen) (hv : Vb.okV (L s) = true) :
    Calls Try.prog 37 #[.string s] w fun e w' => e = .returned (.tuple #[V s.size (Vb.kn (L s)) (Vb.wh (L s)), .bool true]) ∧ Below w.heap.size w w' := by
  unfold maxLen at hs
  obtain ⟨h1, h2, h3⟩ := (okV_iff s).1 hv
  clear hv
  have HV : Hid ((L s).all Vb.isV = true) := h3
  clear h3
  have c1 : decide ((s.size : Int) < 1) = false := by simp; omega
  have c2 : decide (64 < (s.size : Int)) = false := by simp; omega
  go_enter Try.func37, Try.ntmps37
  go_wp2
  go_loopw [5] (fun i W => ∃ k : Nat, k ≤ s.size ∧ i = .int .i64 k ∧ W = (w.alloc (.cells #[.int .i64 0, .int .u64 0, .int .u64 0] 89)).alloc (.cells #[.int .i64 s.size, .int .u64 (U (Vb.kn ((L s).take k))), .int .u64 (U (Vb.wh ((L s).take k)))] 89)) (fun i _ => s.size - (intOf i).toNat)
  case atStart => exact ⟨0, Nat.zero_le _, rfl, rfl⟩
  case round =>
    obtain ⟨k, hk, rfl, rfl⟩ := hrel
    by_cases hlt : k < s.size
    · have ks := kn_step s k hlt
      have ws := wh_step s k hlt
      have KS := hide ks
      have WS := hide ws
      clear ks ws
      generalize Vb.kn ((L s).take k) = K at *
      generalize Vb.wh ((L s).take k) = H at *
      rcases cls s[k] with e | e | e | e | ⟨hn, n1, n2, n3, n4⟩
      · have e' : (s[k].toNat : Int) = 48 := by rw [e]; rfl
        have E := hide e
        clear e
        go_wp2
        exact ⟨⟨k + 1, by omega, by go_num, cells_eq (by rw [unhide KS _ (unhide E)]; exact push_1 _ _ _ rfl) (by rw [unhide WS _ (unhide E)]; exact push_0 _ _ _ rfl)⟩, by simp [intOf]; omega⟩
      · have e' : (s[k].toNat : Int) = 49 := by rw [e]; rfl
        have E := hide e
        clear e
        go_wp2
        exact ⟨⟨k + 1, by omega, by go_num, cells_eq (by rw [unhide KS _ (unhide E)]; exact push_1 _ _ _ rfl) (by rw [unhide WS _ (unhide E)]; exact push_1 _ _ _ rfl)⟩, by simp [intOf]; omega⟩
      · have e' : (s[k].toNat : Int) = 120 := by rw [e]; rfl
        have E := hide e
        clear e
        go_wp2
        exact ⟨⟨k + 1, by omega, by go_num, cells_eq (by rw [unhide KS _ (unhide E)]; exact push_0 _ _ _ rfl) (by rw [unhide WS _ (unhide E)]; exact push_0 _ _ _ rfl)⟩, by simp [intOf]; omega⟩
      · have e' : (s[k].toNat : Int) = 122 := by rw [e]; rfl
        have E := hide e
        clear e
        go_wp2
        exact ⟨⟨k + 1, by omega, by go_num, cells_eq (by rw [unhide KS _ (unhide E)]; exact push_0 _ _ _ rfl) (by rw [unhide WS _ (unhide E)]; exact push_1 _ _ _ rfl)⟩, by simp [intOf]; omega⟩
      · rw [all_of HV.out k hlt] at hn; cases hn
    · have hz : k = s.size := by omega
      subst hz
      rw [L_take_all s s.size (Nat.le_refl _)]
      go_wp2
      refine bodyPost_ret (v := .tuple #[V s.size (Vb.kn (L s)) (Vb.wh (L s)), .bool true]) (by simp [results, Try.results37, go_sem, V]) rfl ⟨rfl, ?_⟩
      exact ((Below.refl _ _).alloc (Nat.le_refl _) _).alloc (by simp) _

set_option maxHeartbeats 400000 in
theorem iVecOf_no (s : ByteArray) (w : World) (hs : s.size ≤ maxLen) (hv : Vb.okV (L s) = false) :
    Calls Try.prog 37 #[.string s] w fun e w' => e = .returned (.tuple #[V 0 0#64 0#64, .bool false]) ∧ Below w.heap.size w w' := by
  unfold maxLen at hs
  by_cases h1 : (s.size : Int) < 1
  · go_enter Try.func37, Try.ntmps37
    go_wp2
    refine bodyPost_ret (v := .tuple #[V 0 0#64 0#64, .bool false]) (by simp [results, Try.results37, go_sem, V, U]) rfl ⟨rfl, ?_⟩
    exact ((Below.refl _ _).alloc (Nat.le_refl _) _)
  by_cases h2 : 64 < (s.size : Int)
  · go_enter Try.func37, Try.ntmps37
    go_wp2
    refine bodyPost_ret (v := .tuple #[V 0 0#64 0#64, .bool false]) (by simp [results, Try.results37, go_sem, V, U]) rfl ⟨rfl, ?_⟩
    exact ((Below.refl _ _).alloc (Nat.le_refl _) _)
  have HV := hide hv
  clear hv
  have c1 : decide ((s.size : Int) < 1) = false := by simp; omega
  have c2 : decide (64 < (s.size : Int)) = false := by simp; omega
  go_enter Try.func37, Try.ntmps37
  go_wp2
  go_loopw [5] (fun i W => ∃ k : Nat, k ≤ s.size ∧ i = .int .i64 k ∧ ((L s).take k).all Vb.isV = true ∧ ∃ K H : Int, W = (w.alloc (.cells #[.int .i64 0, .int .u64 0, .int .u64 0] 89)).alloc (.cells #[.int .i64 s.size, .int .u64 K, .int .u64 H] 89)) (fun i _ => s.size - (intOf i).toNat)
  case atStart => exact ⟨0, Nat.zero_le _, rfl, rfl, _, _, rfl⟩
  case round =>
    obtain ⟨k, hk, rfl, hp, K, H, rfl⟩ := hrel
    have HP := hide hp
    clear hp
    by_cases hlt : k < s.size
    · rcases cls s[k] with e | e | e | e | ⟨hn, n1, n2, n3, n4⟩
      · have e' : (s[k].toNat : Int) = 48 := by rw [e]; rfl
        have E := hide e
        clear e
        go_wp2
        exact ⟨⟨k + 1, by omega, by go_num, all_step k hlt (by rw [unhide E]; rfl) (unhide HP), _, _, rfl⟩, by simp [intOf]; omega⟩
      · have e' : (s[k].toNat : Int) = 49 := by rw [e]; rfl
        have E := hide e
        clear e
        go_wp2
        exact ⟨⟨k + 1, by omega, by go_num, all_step k hlt (by rw [unhide E]; rfl) (unhide HP), _, _, rfl⟩, by simp [intOf]; omega⟩
      · have e' : (s[k].toNat : Int) = 120 := by rw [e]; rfl
        have E := hide e
        clear e
        go_wp2
        exact ⟨⟨k + 1, by omega, by go_num, all_step k hlt (by rw [unhide E]; rfl) (unhide HP), _, _, rfl⟩, by simp [intOf]; omega⟩
      · have e' : (s[k].toNat : Int) = 122 := by rw [e]; rfl
        have E := hide e
        clear e
        go_wp2
        exact ⟨⟨k + 1, by omega, by go_num, all_step k hlt (by rw [unhide E]; rfl) (unhide HP), _, _, rfl⟩, by simp [intOf]; omega⟩
      · clear hn
        go_wp2
        refine bodyPost_ret (v := .tuple #[V 0 0#64 0#64, .bool false]) (by simp [results, Try.results37, go_sem, V, U]) rfl ⟨rfl, ?_⟩
        exact ((Below.refl _ _).alloc (Nat.le_refl _) _).alloc (by simp) _
    · exfalso
      have h := unhide HP
      rw [L_take_all s k (by omega)] at h
      have := (okV_iff s).2 ⟨by omega, by omega, h⟩
      rw [unhide HV] at this; cases this
end Go.Proofs.Ytgkfhaahcedbpaa
