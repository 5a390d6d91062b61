/- Plain facts: the operations on uint64, as the walk writes them, over words of 64 bits. -/
import Derived.WalkKit
import Derived.Laws.BitsAllLaws
import Derived.Test.YtlldfaniddbjaaaGreatDoorProg
import Derived.Test.YtlldfaniddbjaaaGreatDoorGBits
import Derived.WalkSpells
import Derived.WalkLawsBesides
import Derived.Maps.OwnSet
import Derived.Laws.MakeOwn
namespace Go.Proofs.YtlldfaniddbjaaaGreatDoor
open Go

/-- A word of 64 bits as the number that the walk holds. -/
def U (x : BitVec 64) : Int := (x.toNat : Int)
theorem U_nonneg (x : BitVec 64) : 0 ≤ U x := by unfold U; omega
theorem U_lt (x : BitVec 64) : U x < 18446744073709551616 := by unfold U; have := x.isLt; omega
theorem U_toNat (x : BitVec 64) : (U x).toNat = x.toNat := by unfold U; omega
theorem U_inj {x y : BitVec 64} : (U x = U y) ↔ x = y := by
  unfold U; constructor
  · intro h; exact BitVec.eq_of_toNat_eq (by omega)
  · intro h; rw [h]
theorem U_beq (x y : BitVec 64) : (U x == U y) = (x == y) := by
  rw [Bool.eq_iff_iff]; simp [U_inj]
theorem U_bne (x y : BitVec 64) : (U x != U y) = (x != y) := by
  simp [bne, U_beq]
theorem U_ofNat (n : Nat) : U (BitVec.ofNat 64 n) = ((n % 18446744073709551616 : Nat) : Int) := by
  unfold U; rw [BitVec.toNat_ofNat]
theorem U_and (x y : BitVec 64) : bits .and .u64 (U x) (U y) = U (x &&& y) := by
  unfold U; rw [u64_and_nat _ _ (by have := x.isLt; omega) (by have := y.isLt; omega), BitVec.toNat_and]
theorem U_or (x y : BitVec 64) : bits .or .u64 (U x) (U y) = U (x ||| y) := by
  unfold U; rw [u64_or_nat _ _ (by have := x.isLt; omega) (by have := y.isLt; omega), BitVec.toNat_or]
theorem U_xor (x y : BitVec 64) : bits .xor .u64 (U x) (U y) = U (x ^^^ y) := by
  unfold U; rw [u64_xor_nat _ _ (by have := x.isLt; omega) (by have := y.isLt; omega), BitVec.toNat_xor]
theorem U_andNot (x y : BitVec 64) : bits .andNot .u64 (U x) (U y) = U (x &&& ~~~y) := by
  unfold U; rw [u64_andNot_nat _ _ (by have := x.isLt; omega) (by have := y.isLt; omega), BitVec.toNat_and, BitVec.toNat_not]
theorem U_wrap (n : Int) : IntKind.u64.wrap n = U (BitVec.ofInt 64 n) := by
  unfold U; rw [IntKind.wrap_u64, BitVec.toNat_ofInt]; omega
theorem U_shl (x : BitVec 64) (n : Nat) : IntKind.u64.wrap (U x * 2 ^ min n 64) = U (x <<< n) := by
  rw [IntKind.wrap_u64]; unfold U
  rw [BitVec.toNat_shiftLeft, Nat.shiftLeft_eq]
  by_cases h : n ≤ 64
  · rw [Nat.min_eq_left h, show (2 ^ 64 : Nat) = 18446744073709551616 from rfl, Int.natCast_emod, Int.natCast_mul, Int.natCast_pow]; rfl
  · rw [Nat.min_eq_right (by omega)]
    have e : x.toNat * 2 ^ n % 2 ^ 64 = 0 := by
      have : 2 ^ n = 2 ^ 64 * 2 ^ (n - 64) := by rw [← Nat.pow_add]; congr 1; omega
      rw [this, ← Nat.mul_assoc, Nat.mul_right_comm]; exact Nat.mul_mod_left _ _
    rw [e]; omega
theorem U_shr (x : BitVec 64) (n : Nat) : U x / 2 ^ min n 64 = U (x >>> n) := by
  unfold U
  rw [BitVec.toNat_ushiftRight, Nat.shiftRight_eq_div_pow]
  by_cases h : n ≤ 64
  · rw [Nat.min_eq_left h, Int.natCast_ediv, Int.natCast_pow]; rfl
  · rw [Nat.min_eq_right (by omega)]
    have e : x.toNat / 2 ^ n = 0 := by
      apply Nat.div_eq_of_lt
      exact Nat.lt_of_lt_of_le x.isLt (Nat.pow_le_pow_right (by omega) (by omega))
    rw [e]; have := x.isLt; omega
theorem U_shl1 (x : BitVec 64) : IntKind.u64.wrap (U x * 2) = U (x <<< 1) := U_shl x 1
theorem U_or1 (x : BitVec 64) : bits .or .u64 (U x) 1 = U (x ||| 1#64) := U_or x 1#64
theorem U_and1 (x : BitVec 64) : bits .and .u64 (U x) 1 = U (x &&& 1#64) := U_and x 1#64
theorem U_0 : (0 : Int) = U 0#64 := rfl
theorem U_1 : (1 : Int) = U 1#64 := rfl
theorem U_low (c : Nat) : IntKind.u64.wrap (IntKind.u64.wrap (2 ^ min c 64) - 1) = U (BitVec.ofNat 64 (2 ^ c - 1)) := by
  rw [IntKind.wrap_u64, IntKind.wrap_u64]; unfold U
  rw [BitVec.toNat_ofNat]
  by_cases h : c < 64
  · rw [Nat.min_eq_left (by omega)]
    have h1 : 2 ^ c < 2 ^ 64 := Nat.pow_lt_pow_right (by omega) h
    have h2 : 0 < 2 ^ c := Nat.two_pow_pos c
    have e : ((2 : Int) ^ c) = ((2 ^ c : Nat) : Int) := by rw [Int.natCast_pow]; rfl
    rw [e]; omega
  · rw [Nat.min_eq_right (by omega)]
    have e : 2 ^ c = 2 ^ 64 * 2 ^ (c - 64) := by rw [← Nat.pow_add]; congr 1; omega
    have h2 : 0 < 2 ^ (c - 64) := Nat.two_pow_pos _
    rw [e]; omega
end Go.Proofs.YtlldfaniddbjaaaGreatDoor
namespace Go.Proofs.YtlldfaniddbjaaaGreatDoor
open Go.RowKit
theorem hide {p : Prop} (h : p) : Hid p := h
theorem unhide {p : Prop} (h : Hid p) : p := h
theorem bal {w w' : World} (h : Below w.heap.size w w') (o : Obj) : Below w.heap.size w (w'.alloc o) := h.alloc h.size o
theorem btr {a b c : World} (h : Below a.heap.size a b) (k : Below b.heap.size b c) : Below a.heap.size a c := h.trans (k.mono h.size)
theorem bst {w w' : World} (h : Below w.heap.size w w') {a : Addr} (ha : w.heap.size ≤ a.block) (v : Value) : Below w.heap.size w (w'.setCell a v) := h.setCell ha v
theorem brf (w : World) : Below w.heap.size w w := Below.refl _ _
theorem bcell {W w1 : World} (hb : Below W.heap.size W w1) : (∀ b o, b < W.heap.size → w1.cell? ⟨b, o, none⟩ = W.cell? ⟨b, o, none⟩) ∧ (∀ b o, b < W.heap.size → w1.frozen? ⟨b, o, none⟩ = W.frozen? ⟨b, o, none⟩) :=
  ⟨fun b o h => hb.cell (p := ⟨b, o, none⟩) h, fun b o h => hb.frozen (p := ⟨b, o, none⟩) h⟩
theorem frozen_later {W w1 : World} {b o : Nat} {v : Value} (hb : Below W.heap.size W w1) (hc : W.cell? ⟨b, o, none⟩ = some v) (hf : W.frozen? ⟨b, o, none⟩ = false) : w1.frozen? ⟨b, o, none⟩ = false := by
  rw [hb.frozen (p := ⟨b, o, none⟩) (World.block_lt_of_cell? _ _ hc)]; exact hf
theorem bdr {w w' : World} (h : Below w.heap.size w w') : Below w.heap.size w w'.drew := h.drew
theorem keep1 {X : World} {o : Obj} {a : Addr} {v : Value} (h : X.drew.cell? a = some v) : (X.alloc o).drew.cell? a = some v := cell_later (w := X) (wx := X.alloc o) (bal (brf X) o) h
/-- A string's bytes. -/
def L (s : ByteArray) : List UInt8 := s.data.toList
/-- The string of some bytes. -/
def S (l : List UInt8) : ByteArray := ⟨l.toArray⟩
theorem L_S (l : List UInt8) : L (S l) = l := by simp [L, S]
theorem S_L (s : ByteArray) : S (L s) = s := by cases s; simp [L, S]
theorem L_inj {a b : ByteArray} (h : L a = L b) : a = b := by rw [← S_L a, ← S_L b, h]
theorem L_len (s : ByteArray) : (L s).length = s.size := by simp [L]
theorem S_size (l : List UInt8) : (S l).size = l.length := by rw [← L_len, L_S]
theorem L_get (s : ByteArray) (k : Nat) (h : k < s.size) : s[k] = (L s)[k]'(by rw [L_len]; exact h) := rfl
theorem L_take (s : ByteArray) (k : Nat) (h : k < s.size) : (L s).take (k + 1) = (L s).take k ++ [s[k]] := by
  unfold L; rw [List.take_succ_eq_append_getElem (by simpa using h)]; rfl
theorem L_drop (s : ByteArray) (k : Nat) (h : k < s.size) : (L s).drop k = s[k] :: (L s).drop (k + 1) := by
  unfold L; rw [List.drop_eq_getElem_cons (by simpa using h)]; rfl
theorem L_take_all (s : ByteArray) (k : Nat) (h : s.size ≤ k) : (L s).take k = L s := by
  rw [List.take_of_length_le (by rw [L_len]; exact h)]
theorem L_mem (s : ByteArray) (k : Nat) (h : k < s.size) : s[k] ∈ L s := by
  rw [L_get]; exact List.getElem_mem _
theorem ret_bool {a b : Bool} (h : a = b) : Ending.returned (.bool a) = .returned (.bool b) := by rw [h]
theorem ret_str {a b : ByteArray} (h : a = b) : Ending.returned (.string a) = .returned (.string b) := by rw [h]
theorem u8_eq {c : UInt8} {n : Nat} (h : (c.toNat : Int) = n) (hn : n < 256) : c = UInt8.ofNat n := by
  apply UInt8.toNat_inj.1; rw [UInt8.toNat_ofNat']; omega
theorem u8_ne {c : UInt8} (n : Nat) (hn : n < 256) (h : c ≠ UInt8.ofNat n) : ((c.toNat : Int) != n) = true := by
  rw [bne_iff_ne]; intro e; exact h (u8_eq e hn)
theorem u8_nq {c : UInt8} (n : Nat) (hn : n < 256) (h : c ≠ UInt8.ofNat n) : ((c.toNat : Int) == n) = false := by
  rw [beq_eq_false_iff_ne]; intro e; exact h (u8_eq e hn)
theorem cls (c : UInt8) : c = 48 ∨ c = 49 ∨ c = 120 ∨ c = 122 ∨ (Vb.isV c = false ∧ ((c.toNat : Int) != 48) = true ∧ ((c.toNat : Int) != 49) = true ∧ ((c.toNat : Int) != 120) = true ∧ ((c.toNat : Int) != 122) = true) := by
  by_cases h1 : c = 48
  · exact .inl h1
  by_cases h2 : c = 49
  · exact .inr (.inl h2)
  by_cases h3 : c = 120
  · exact .inr (.inr (.inl h3))
  by_cases h4 : c = 122
  · exact .inr (.inr (.inr (.inl h4)))
  exact .inr (.inr (.inr (.inr ⟨by simp [Vb.isV, h1, h2, h3, h4], u8_ne 48 (by omega) h1, u8_ne 49 (by omega) h2, u8_ne 120 (by omega) h3, u8_ne 122 (by omega) h4⟩)))
theorem okV_iff (s : ByteArray) : Vb.okV (L s) = true ↔ 1 ≤ s.size ∧ s.size ≤ 64 ∧ (L s).all Vb.isV = true := by
  simp only [Vb.okV, L_len, Bool.and_eq_true, decide_eq_true_eq]
theorem all_of {p : UInt8 → Bool} {s : ByteArray} (h : (L s).all p = true) (k : Nat) (hk : k < s.size) : p s[k] = true :=
  List.all_eq_true.1 h _ (L_mem s k hk)
theorem not_all {p : UInt8 → Bool} {s : ByteArray} (k : Nat) (hk : k < s.size) (h : p s[k] = false) : (L s).all p = false := by
  rw [← Bool.not_eq_true]; intro e; rw [all_of e k hk] at h; cases h
theorem all_step {p : UInt8 → Bool} {s : ByteArray} (k : Nat) (hk : k < s.size) (h : p s[k] = true) (ha : ((L s).take k).all p = true) : ((L s).take (k + 1)).all p = true := by
  rw [L_take s k hk, List.all_append, ha]; simp [h]
end Go.Proofs.YtlldfaniddbjaaaGreatDoor
namespace Go.Proofs.YtlldfaniddbjaaaGreatDoor
open Go.RowKit Gs Go.Maps Go.WideMaps
set_option linter.unusedVariables false
set_option maxRecDepth 100000
def keyL (s : ByteArray) : Lit := .string s.data.toList
theorem keyL_inj {a b : ByteArray} (h : keyL a = keyL b) : a = b := by
  unfold keyL at h
  injection h with h
  exact L_inj h
theorem keyL_key (s : ByteArray) : WideAt.IsKeyLit (keyL s) := by simp [keyL, WideAt.IsKeyLit]
/-- The map behind the first k names. -/
def Pm (ss : List ByteArray) : Nat → DataW Unit
  | 0 => .map []
  | k + 1 => (Pm ss k).put (keyL (ss.getD k ByteArray.empty)) (.lit (.int .i64 k))
theorem Pm_tidy (ss : List ByteArray) : ∀ k, Tidy (Pm ss k)
  | 0 => tidy_empty
  | k + 1 => (Pm_tidy ss k).put (keyL_key _) _
theorem Pm_has (ss : List ByteArray) (s : ByteArray) : ∀ k, k ≤ ss.length → (Maps.has (Pm ss k) (keyL s) = true ↔ s ∈ ss.take k)
  | 0, _ => by simp [Pm, Maps.has_eq]
  | k + 1, h => by
    have hk : ss[k]? = some ss[k] := List.getElem?_eq_getElem (by omega)
    have hg : ss.getD k ByteArray.empty = ss[k] := by simp [List.getD, hk]
    rw [List.take_add_one, hk, Pm, hg]
    by_cases e : s = ss[k]
    · subst e
      simp only [has_put_same (Pm_tidy ss k).isMap (keyL_key _), Option.toList_some, List.mem_append, List.mem_singleton, or_true]
    · rw [has_put_other (fun h => e (keyL_inj h)), Pm_has ss s k (by omega)]
      simp only [Option.toList_some, List.mem_append, List.mem_singleton, e, or_false]
theorem Pm_size (ss : List ByteArray) : ∀ k, k ≤ ss.length → Maps.size (Pm ss k) ≤ k ∧ (Maps.size (Pm ss k) = k ↔ (ss.take k).Nodup)
  | 0, _ => by simp [Pm, Maps.size_eq]
  | k + 1, h => by
    have hk : ss[k]? = some ss[k] := List.getElem?_eq_getElem (by omega)
    have hg : ss.getD k ByteArray.empty = ss[k] := by simp [List.getD, hk]
    obtain ⟨ih1, ih2⟩ := Pm_size ss k (by omega)
    have hh := Pm_has ss ss[k] k (by omega)
    rw [List.take_add_one, hk, Pm, hg, size_put (Pm_tidy ss k)]
    simp only [Option.toList_some, List.nodup_append, List.nodup_cons, List.not_mem_nil, not_false_eq_true, List.nodup_nil, and_true, true_and, List.mem_singleton]
    by_cases e : Maps.has (Pm ss k) (keyL ss[k]) = true
    · rw [if_pos e]
      refine ⟨by omega, ⟨fun q => by omega, fun q => ?_⟩⟩
      exact absurd rfl (q.2 _ (hh.1 e) _ rfl)
    · rw [if_neg e]
      refine ⟨by omega, ⟨fun q => ⟨ih2.1 (by omega), fun a ha b hb hab => ?_⟩, fun q => by have := ih2.2 q.1; omega⟩⟩
      subst hb hab
      exact e (hh.2 ha)
theorem beq_nat (a b : Nat) : (((a : Nat) : Int) == ((b : Nat) : Int)) = decide (a = b) := by
  rw [show (((a : Nat) : Int) == ((b : Nat) : Int)) = decide ((a : Int) = (b : Int)) from rfl]
  exact decide_eq_decide.2 (by omega)
theorem law9 : Keyed Tryz.prog 9 := string_keyed Tryz.underlying9
set_option maxHeartbeats 1600000 in
theorem iAllNew (ss : List ByteArray) (v : Value) (w : World) (hl : ss.length ≤ 2097152) (hr : RS 1 RStr w 0 ss v) :
    Calls Tryz.prog 127 #[v] w fun e w' => e = .returned (.bool (decide ss.Nodup)) ∧ Below w.heap.size w w' := by
  have hmm := @run_makeMap Tryz.prog
  rcases hr.open with ⟨rfl, a, c, rfl⟩ | ⟨b, o, c, rfl, hc, hn, _, hcs⟩
  · clear hr
    go_enter Tryz.func127, Tryz.ntmps127
    go_wp2
    refine wp_loop_rounds 1 ?_
    rw [rounds_succ]
    go_wp2_with (first
      | (at_len; refine wpList_len_own _ rfl _ 185 rfl 9 3 Tryz.underlying185 (plainElem (H := Unit) Tryz.prog 3) w.heap.size 0 (.map []) rfl (World.ownsMap_made _ _ _ _) ?_)
      | go_in)
    go_ret
    exact ⟨by simp [Maps.size_eq], (Below.refl _ _).alloc (Nat.le_refl _) _⟩
  · unfold maxLen at hn
    have HC := hide hcs
    clear hcs hr
    go_enter Tryz.func127, Tryz.ntmps127
    go_wp2
    go_loopw [9] (fun i wr => ∃ k : Nat, k ≤ ss.length ∧ i = .int .i64 k ∧ wr.ownsMap Tryz.prog 9 (plainElem Tryz.prog 3) w.heap.size k (Pm ss k) ∧ Below w.heap.size w wr) (fun i _ => ss.length - (intOf i).toNat)
    case atStart => exact ⟨0, Nat.zero_le _, rfl, World.ownsMap_made _ _ _ _, (Below.refl _ _).alloc (Nat.le_refl _) _⟩
    case round =>
      obtain ⟨k, hk, rfl, hown, hnx⟩ := hrel
      by_cases hlt : k < ss.length
      · obtain ⟨s, hs⟩ : ∃ s, ss[k]? = some s := ⟨_, List.getElem?_eq_getElem (by omega)⟩
        obtain ⟨u, hul, hat, hus, hsz⟩ := unhide HC k s hs
        subst hus
        have hcx := cell_later hnx (hat.get (j := 0) rfl)
        simp only [Nat.add_zero, Nat.mul_one] at hcx
        have hgd : ss.getD k ByteArray.empty = s := by simp [List.getD, hs]
        have hkey : keyOf Tryz.prog 9 (.string s) = some (keyL s) := keyOf_string_mk Tryz.underlying9 hsz
        have HST : Hid (Pm ss (k + 1) = (Pm ss k).put (keyL s) (.lit (.int .i64 k))) := hide (by rw [Pm, hgd])
        clear hgd hat hul HC
        go_wp2_with (first
          | (at_mapUpdate; refine wpList_mapUpdate_own _ rfl _ _ _ 185 rfl 9 3 law9 Tryz.underlying185 _ w.heap.size k _ rfl hown (by unfold maxLen; omega) _ _ _ rfl rfl hkey _ [] (plainElem_int Tryz.underlying3 (WalkArith.wf_i64 (by omega))) ?_; intro w1 hown1 hgrow1)
          | go_in)
        go_roundw
        case rel => exact ⟨k + 1, by omega, by go_num, by rw [unhide HST]; exact hown1, hnx.grown hgrow1 hnx.size (fun j hj => by cases hj; exact Nat.le_refl _)⟩
        case measure => simp [intOf]; omega
      · obtain hkl : k = ss.length := by omega
        subst hkl
        have hsz := Pm_size ss ss.length (Nat.le_refl _)
        rw [List.take_of_length_le (Nat.le_refl _)] at hsz
        have HSZ := hide hsz
        clear hsz HC
        go_wp2_with (first
          | (at_len; refine wpList_len_own _ rfl _ 185 rfl 9 3 Tryz.underlying185 _ w.heap.size ss.length _ rfl hown ?_)
          | go_in)
        go_ret
        refine ⟨?_, hnx⟩
        refine ret_bool ?_
        rw [beq_nat]
        exact decide_eq_decide.2 (unhide HSZ).2
end Go.Proofs.YtlldfaniddbjaaaGreatDoor
namespace Go.Proofs.YtlldfaniddbjaaaGreatDoor.Gs
open Go Go.RowKit
set_option linter.unusedVariables false
/-- Cells one behind the other are set. -/
def setK (w : World) (g o : Nat) : List Value → World
  | [] => w
  | v :: vs => setK (w.setCell ⟨g, o, none⟩ v) g (o + 1) vs
theorem ne_addr {b g o p : Nat} (h : b ≠ g ∨ p ≠ o) : (⟨g, o, none⟩ : Addr) ≠ ⟨b, p, none⟩ := fun e => by
  injection e with e1 e2
  rcases h with h | h
  · exact h e1.symm
  · exact h e2.symm
theorem setK_other : ∀ (vs : List Value) (w : World) (g o b p : Nat), (b ≠ g ∨ p < o ∨ o + vs.length ≤ p) → (setK w g o vs).cell? ⟨b, p, none⟩ = w.cell? ⟨b, p, none⟩
  | [], _, _, _, _, _, _ => rfl
  | v :: vs, w, g, o, b, p, h => by
    simp only [List.length_cons] at h
    rw [setK, setK_other vs _ g (o + 1) b p (by omega)]
    exact World.cell?_setCell_other (w := w) (a := ⟨g, o, none⟩) (b := ⟨b, p, none⟩) (v := v) (ne_addr (by omega))
theorem setK_frozen : ∀ (vs : List Value) (w : World) (g o : Nat) (a : Addr), (setK w g o vs).frozen? a = w.frozen? a
  | [], _, _, _, _ => rfl
  | v :: vs, w, g, o, a => by rw [setK, setK_frozen vs]; simp
theorem setK_some : ∀ (vs : List Value) (w : World) (g o b p : Nat), (∃ x, w.cell? ⟨b, p, none⟩ = some x) → ∃ x, (setK w g o vs).cell? ⟨b, p, none⟩ = some x
  | [], _, _, _, _, _, h => h
  | v :: vs, w, g, o, b, p, h => by
    rw [setK]
    refine setK_some vs _ g (o + 1) b p ?_
    obtain ⟨x, hx⟩ := h
    by_cases e : b = g ∧ p = o
    · obtain ⟨rfl, rfl⟩ := e
      exact ⟨v, World.cell?_setCell_same (w := w) (a := ⟨b, p, none⟩) (v := v) hx⟩
    · exact ⟨x, by rw [World.cell?_setCell_other (w := w) (a := ⟨g, o, none⟩) (b := ⟨b, p, none⟩) (v := v) (ne_addr (by omega))]; exact hx⟩
theorem setK_at : ∀ (vs : List Value) (w : World) (g o : Nat), (∀ q, q < vs.length → ∃ x, w.cell? ⟨g, o + q, none⟩ = some x) → At (setK w g o vs) g o vs
  | [], _, _, _, _ => fun j y hj => by simp at hj
  | v :: vs, w, g, o, h => by
    intro j y hj
    rw [setK]
    cases j with
    | zero =>
      simp at hj; subst hj
      rw [setK_other vs _ g (o + 1) g (o + 0) (by omega)]
      obtain ⟨x, hx⟩ := h 0 (by simp)
      exact World.cell?_setCell_same (w := w) (a := ⟨g, o, none⟩) (v := v) hx
    | succ j =>
      have hj' : vs[j]? = some y := by simpa using hj
      have := setK_at vs (w.setCell ⟨g, o, none⟩ v) g (o + 1) (fun q hq => ?_) j y hj'
      · rwa [show o + 1 + j = o + (j + 1) by omega] at this
      · have h1 := h (q + 1) (by simpa using hq)
        rw [show o + (q + 1) = o + 1 + q by omega] at h1
        exact setK_some [v] w g o g (o + 1 + q) h1
theorem setK_below : ∀ (vs : List Value) {B : Nat} {w W : World} {g o : Nat}, Below B w W → B ≤ g → Below B w (setK W g o vs)
  | [], _, _, _, _, _, h, _ => h
  | v :: vs, B, w, W, g, o, h, hg => by
    rw [setK]
    exact setK_below vs (h.setCell (p := ⟨g, o, none⟩) hg v) hg
theorem setK_size : ∀ (vs : List Value) (w : World) (g o : Nat), (setK w g o vs).heap.size = w.heap.size
  | [], _, _, _ => rfl
  | v :: vs, w, g, o => by rw [setK, setK_size vs]; simp
/-- The cells of a row that may be written. -/
def TP (W : World) (g m : Nat) : Prop := ∀ i, i < m → (∃ x, W.cell? ⟨g, i, none⟩ = some x) ∧ W.frozen? ⟨g, i, none⟩ = false
/-- The first n elements of a row hold those of a list. -/
def NR {α : Type} (k : Nat) (R : Rd α) (W : World) (B g n : Nat) (xs : List α) : Prop := ∀ i x, i < n → xs[i]? = some x → ∃ u, u.length = k ∧ At W g (i * k) u ∧ R W B x u
theorem TP.later {W V : World} {g m : Nat} (h : TP W g m) (hb : Below W.heap.size W V) : TP V g m := fun i hi => by
  obtain ⟨⟨x, hx⟩, hf⟩ := h i hi
  exact ⟨⟨x, cell_later hb hx⟩, frozen_later hb hx hf⟩
theorem TP.set {W : World} {g m o : Nat} {vs : List Value} (h : TP W g m) : TP (setK W g o vs) g m := fun i hi => by
  obtain ⟨hx, hf⟩ := h i hi
  exact ⟨setK_some vs W g o g i hx, by rw [setK_frozen]; exact hf⟩
theorem NR.later {α : Type} {k : Nat} {R : Rd α} (hR : Keeps R) {W V : World} {B g n : Nat} {xs : List α} (h : NR k R W B g n xs) (hb : Below W.heap.size W V) : NR k R V B g n xs := fun i x hi hx => by
  obtain ⟨u, h1, h2, h3⟩ := h i x hi hx
  exact ⟨u, h1, fun j y hj => cell_later hb (h2 j y hj), hR _ _ _ _ _ (later_cells hb B) h3⟩
/-- One element more is written. -/
theorem NR.step {α : Type} {k : Nat} {R : Rd α} (hR : Keeps R) {V : World} {B g j m : Nat} {xs : List α} {x : α} {u : List Value} (hTP : TP V g m) (h : NR k R V B g j xs) (hg : g < B) (hx : xs[j]? = some x) (hu : u.length = k) (hr : R V B x u) (hm : j * k + k ≤ m) : NR k R (setK V g (j * k) u) B g (j + 1) xs := by
  have hkeep : ∀ b o y, B ≤ b → V.cell? ⟨b, o, none⟩ = some y → (setK V g (j * k) u).cell? ⟨b, o, none⟩ = some y := fun b o y hb hc => by
    rw [setK_other u V g (j * k) b o (.inl (by omega))]; exact hc
  intro i y hi hy
  by_cases e : i = j
  · subst e
    rw [hx] at hy
    cases hy
    exact ⟨u, hu, setK_at u V g (i * k) (fun q hq => (hTP (i * k + q) (by omega)).1), hR _ _ _ _ _ hkeep hr⟩
  · obtain ⟨v, h1, h2, h3⟩ := h i y (by omega) hy
    refine ⟨v, h1, fun q z hz => ?_, hR _ _ _ _ _ hkeep h3⟩
    have hq : q < k := by rw [← h1]; exact (List.getElem?_eq_some_iff.1 hz).1
    have hij : i * k + k ≤ j * k := by
      have : (i + 1) * k ≤ j * k := Nat.mul_le_mul_right k (by omega)
      rw [Nat.add_mul, Nat.one_mul] at this
      exact this
    rw [setK_other u V g (j * k) g (i * k + q) (.inr (.inl (by omega)))]
    exact h2 q z hz
theorem NR.zero {α : Type} {k : Nat} {R : Rd α} {W : World} {B g : Nat} {xs : List α} : NR k R W B g 0 xs := fun i x hi => absurd hi (Nat.not_lt_zero _)
theorem NR.done {α : Type} {k : Nat} {R : Rd α} (hL : Lowers R) {W : World} {B g : Nat} {xs : List α} (h : NR k R W (g + 1) g xs.length xs) (hn : xs.length ≤ maxLen) (hB : B ≤ g) : RS k R W B xs (.slice (some ⟨g, 0, none⟩) xs.length xs.length) :=
  ⟨_, _, rfl, Nat.le_refl _, hn, fun _ => ⟨g, 0, rfl, hB, fun i x hx => by
    obtain ⟨u, h1, h2, h3⟩ := h i x (List.getElem?_eq_some_iff.1 hx).1 hx
    exact ⟨u, h1, by rw [Nat.zero_add]; exact h2, hL _ _ _ _ _ (by omega) h3⟩⟩⟩
theorem TP_made (w : World) (M : Array Value) (t : TypeId) (m : Nat) (h : M.size = m) : TP (w.alloc (.cells M t)) w.heap.size m := fun i hi => by
  refine ⟨⟨M[i]'(by omega), ?_⟩, by simp⟩
  rw [World.cell?_alloc_new]; exact Array.getElem?_eq_getElem (by omega)
theorem RS.set {α : Type} {k : Nat} {R : Rd α} (hR : Keeps R) {W : World} {B : Nat} {xs : List α} {v u : Value} {g o : Nat} (h : RS k R W B xs v) (hg : g < B) : RS k R (W.setCell ⟨g, o, none⟩ u) B xs v :=
  h.keep hR fun b p y hb hc => by
    rw [World.cell?_setCell_other (w := W) (a := ⟨g, o, none⟩) (b := ⟨b, p, none⟩) (v := u) (ne_addr (.inl (by omega)))]; exact hc
end Go.Proofs.YtlldfaniddbjaaaGreatDoor.Gs
