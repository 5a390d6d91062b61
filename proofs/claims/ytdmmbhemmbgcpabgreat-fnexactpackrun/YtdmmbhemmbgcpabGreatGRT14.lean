/- The specification's l01Fill: so many letters. -/
import Derived.Test.YtdmmbhemmbgcpabGreatGDD
import Derived.Laws.BitsAllLaws
namespace Go.Proofs.YtdmmbhemmbgcpabGreat
open Go.RowKit
theorem L_append (a b : ByteArray) : L (a ++ b) = L a ++ L b := by
  unfold L
  rw [ByteArray.data_append, Array.toList_append]
theorem one_string (c : Int) (x : UInt8) (h : c = (x.toNat : Int)) (W : World) : (convert 158 9 (.slice (some ⟨W.heap.size, 0, none⟩) 1 1)).run Tryz.prog (W.alloc (.cells #[.int .u8 c] 5)) = .ok (.string (S [x])) (W.alloc (.cells #[.int .u8 c] 5)) := by
  subst h
  refine run_convert_bytes_back (P := Tryz.prog) _ 158 9 5 ⟨W.heap.size, 0, none⟩ 1 [x] (by kernel_rfl) (by kernel_rfl) (by kernel_rfl) ?_
  intro j hj
  have : j = 0 := by simp at hj; omega
  subst this
  rw [Addr.add_lit, World.cell?_alloc_new]; rfl
theorem S_snoc (l : List UInt8) (c : UInt8) : S l ++ S [c] = S (l ++ [c]) := by
  apply L_inj; rw [L_append, L_S, L_S, L_S]
end Go.Proofs.YtdmmbhemmbgcpabGreat
namespace Go.Proofs.YtdmmbhemmbgcpabGreat
open Go.RowKit Gs
set_option linter.unusedVariables false
set_option linter.unusedSimpArgs false
set_option maxRecDepth 100000
/-- The digits of a number, ahead of a text. -/
def digs : Nat → Nat → ByteArray → ByteArray
  | 0, _, acc => acc
  | f + 1, k, acc => if k = 0 then acc else digs f (k / 10) (S [UInt8.ofNat (48 + k % 10)] ++ acc)
/-- The text of a mark. -/
def mtx (k : Nat) : ByteArray := if k = 0 then ⟨#[109, 48]⟩ else ⟨#[109]⟩ ++ digs 19 k ByteArray.empty

set_option maxHeartbeats 8000000 in
theorem markTx (k : Nat) (w : World) (hk : k < 10 ^ 18) :
    Calls Tryz.prog 74 #[.int .i64 (k : Int)] w fun e w' => (e = .returned (.string (mtx k)) ∧ (mtx k).size ≤ 64) ∧ Below w.heap.size w w' := by
  by_cases h0 : k = 0
  · subst h0
    go_enter Tryz.func74, Tryz.ntmps74
    go_wp2
    exact bodyPost_ret (v := .string ⟨#[109, 48]⟩) (by simp [results, Tryz.results74, go_sem]) rfl ⟨⟨rfl, by decide⟩, brf w⟩
  · have d0 : decide ((k : Int) ≤ 0) = false := decide_eq_false (by omega)
    have HMX : Hid (mtx k = ⟨#[109]⟩ ++ digs 19 k ByteArray.empty) := hide (by unfold mtx; rw [if_neg h0])
    go_enter Tryz.func74, Tryz.ntmps74
    go_wp2
    go_loopw [0, 3] (fun kv o wr => ∃ (m : Nat) (s : ByteArray) (j : Nat), kv = .int .i64 (m : Int) ∧ o = .string s ∧ s.size ≤ j ∧ j ≤ 18 ∧ m < 10 ^ (18 - j) ∧ digs (19 - j) m s = digs 19 k ByteArray.empty ∧ Below w.heap.size w wr) (fun kv _ _ => (intOf kv).toNat)
    case atStart => exact ⟨k, ByteArray.empty, 0, rfl, rfl, by decide, by omega, by simpa using hk, rfl, brf _⟩
    case round =>
      obtain ⟨m, s, j, rfl, rfl, hs, hj, hm, hdd, hb⟩ := hrel
      by_cases hp : m = 0
      · subst hp
        have HB := hide hb
        have hd2 : digs (19 - j) 0 s = s := by
          rw [show 19 - j = (18 - j) + 1 by omega, digs, if_pos rfl]
        have HX := hide (show mtx k = ⟨#[109]⟩ ++ s by rw [unhide HMX, ← hdd, hd2])
        clear hb hdd hd2
        have hsz : s.size ≤ 18 := by omega
        go_wp2
        refine bodyPost_ret (v := .string (⟨#[109]⟩ ++ s)) (by simp [results, Tryz.results74, go_sem]) rfl ⟨⟨by rw [unhide HX], ?_⟩, unhide HB⟩
        rw [unhide HX, ByteArray.size_append]
        have : (⟨#[109]⟩ : ByteArray).size = 1 := rfl
        omega
      · have hm0 : 0 < m := by omega
        have dm : (0 : Int) < (m : Int) := by omega
        have hmb : m < 10 ^ 18 := Nat.lt_of_lt_of_le hm (Nat.pow_le_pow_right (by omega) (by omega))
        have hj18 : j < 18 := by
          rcases Nat.lt_or_ge j 18 with h | h
          · exact h
          · have e : 18 - j = 0 := by omega
            rw [e] at hm; omega
        have hdg : 48 + m % 10 < 256 := by omega
        have hcv := one_string (48 + (m : Int) % 10) (UInt8.ofNat (48 + m % 10)) (by rw [UInt8.toNat_ofNat']; omega)
        have hlt : m / 10 < 10 ^ (18 - (j + 1)) := by
          have e : 18 - j = (18 - (j + 1)) + 1 := by omega
          rw [e, Nat.pow_succ] at hm
          omega
        have HDD := hide (show digs (19 - (j + 1)) (m / 10) (S [UInt8.ofNat (48 + m % 10)] ++ s) = digs 19 k ByteArray.empty by
          rw [← hdd, show 19 - j = (18 - j) + 1 by omega, digs, if_neg hp, show 19 - (j + 1) = 18 - j by omega])
        have HB := hide hb
        have HL := hide hlt
        have HM := hide hm
        have hsz : s.size ≤ 18 := by omega
        clear hb hlt hm hdd
        generalize hd : S [UInt8.ofNat (48 + m % 10)] = D at hcv HDD
        have hD : D.size = 1 := by rw [← hd, S_size]; rfl
        clear hd
        go_wp2
        refine ⟨⟨m / 10, D ++ s, j + 1, by first | rfl | go_num, rfl, ?_, by omega, unhide HL, unhide HDD, bal (unhide HB) _⟩, ?_⟩
        · rw [ByteArray.size_append]; omega
        · simp [intOf]; omega
theorem markT (k : Nat) (w : World) (hk : k < 10 ^ 18) :
    Calls Tryz.prog 74 #[.int .i64 (k : Int)] w fun e w' => (∃ s : ByteArray, e = .returned (.string s) ∧ s.size ≤ 64) ∧ Below w.heap.size w w' := by
  refine (markTx k w hk).mono ?_
  rintro e w' ⟨⟨rfl, h⟩, hb⟩
  exact ⟨⟨_, rfl, h⟩, hb⟩
end Go.Proofs.YtdmmbhemmbgcpabGreat
namespace Go.Proofs.YtdmmbhemmbgcpabGreat
open Go Go.RowKit Gs
set_option linter.unusedVariables false
set_option linter.unusedSimpArgs false
/-- No cell from the block B on is frozen. -/
def NF (B : Nat) (W : World) : Prop := ∀ b o x, B ≤ b → W.cell? ⟨b, o, none⟩ = some x → W.frozen? ⟨b, o, none⟩ = false
theorem nf_rf (w : World) : NF w.heap.size w := fun b o x hb h => by
  have := World.block_lt_of_cell? w _ h
  simp at this
  omega
theorem nf_al {B : Nat} {W : World} (h : NF B W) (c : Array Value) (t : TypeId) : NF B (W.alloc (.cells c t)) := fun b o x hb hx => by
  by_cases e : b < W.heap.size
  · have hh : (W.alloc (.cells c t)).heap[b]? = W.heap[b]? := Below.heap_alloc W _ b e
    rw [World.cell?_of_block (a := ⟨b, o, none⟩) hh] at hx
    rw [World.frozen?_of_block (a := ⟨b, o, none⟩) hh]
    exact h b o x hb hx
  · have hlt := World.block_lt_of_cell? _ _ hx
    simp at hlt
    obtain rfl : b = W.heap.size := by omega
    simp
theorem cell_of_set {W : World} {a : Addr} {v : Value} {b o : Nat} {x : Value} (h : (W.setCell a v).cell? ⟨b, o, none⟩ = some x) : ∃ y, W.cell? ⟨b, o, none⟩ = some y := by
  cases hc : W.cell? ⟨b, o, none⟩ with
  | some y => exact ⟨y, rfl⟩
  | none =>
    exfalso
    by_cases e : a = ⟨b, o, none⟩
    · subst e
      simp only [World.setCell, World.cell?, Array.getElem?_modify, ↓reduceIte] at h hc
      cases hh : W.heap[b]? with
      | none => simp [hh] at h
      | some q =>
        cases q <;> simp [hh] at h hc
        rw [Array.getElem?_eq_none (by simp; omega)] at h
        cases h
    · rw [World.cell?_setCell_other (w := W) (a := a) (b := ⟨b, o, none⟩) (v := v) e, hc] at h
      cases h
theorem nf_set {B : Nat} {W : World} (h : NF B W) (a : Addr) (v : Value) : NF B (W.setCell a v) := fun b o x hb hx => by
  obtain ⟨y, hy⟩ := cell_of_set hx
  rw [World.frozen?_setCell]
  exact h b o y hb hy
theorem nf_tr {B : Nat} {W V : World} (h : NF B W) (hb : Below W.heap.size W V) (k : NF W.heap.size V) : NF B V := fun b o x hB hx => by
  by_cases e : b < W.heap.size
  · have hh : V.heap[b]? = W.heap[b]? := hb.block b e
    rw [World.cell?_of_block (a := ⟨b, o, none⟩) hh] at hx
    rw [World.frozen?_of_block (a := ⟨b, o, none⟩) hh]
    exact h b o x hB hx
  · exact k b o x (by omega) hx
theorem nf_setK {B : Nat} : ∀ (vs : List Value) {W : World} {g o : Nat}, NF B W → NF B (setK W g o vs)
  | [], _, _, _, h => h
  | v :: vs, W, g, o, h => by
    rw [setK]
    exact nf_setK vs (nf_set h _ v)
/-- Values of one kind. -/
def SK (x y : Value) : Prop := x = y ∨ (∃ k a b, x = .int k a ∧ y = .int k b) ∨ (∃ a b, x = .bool a ∧ y = .bool b) ∨ (∃ a b, x = .string a ∧ y = .string b)
theorem SK.refl (x : Value) : SK x x := .inl rfl
theorem SK.trans {x y z : Value} (h : SK x y) (k : SK y z) : SK x z := by
  rcases h with rfl | ⟨q, a, b, rfl, rfl⟩ | ⟨a, b, rfl, rfl⟩ | ⟨a, b, rfl, rfl⟩
  · exact k
  · rcases k with rfl | ⟨q', a', b', e, rfl⟩ | ⟨a', b', e, rfl⟩ | ⟨a', b', e, rfl⟩
    · exact .inr (.inl ⟨_, _, _, rfl, rfl⟩)
    · cases e; exact .inr (.inl ⟨_, _, _, rfl, rfl⟩)
    · cases e
    · cases e
  · rcases k with rfl | ⟨q', a', b', e, rfl⟩ | ⟨a', b', e, rfl⟩ | ⟨a', b', e, rfl⟩
    · exact .inr (.inr (.inl ⟨_, _, rfl, rfl⟩))
    · cases e
    · cases e; exact .inr (.inr (.inl ⟨_, _, rfl, rfl⟩))
    · cases e
  · rcases k with rfl | ⟨q', a', b', e, rfl⟩ | ⟨a', b', e, rfl⟩ | ⟨a', b', e, rfl⟩
    · exact .inr (.inr (.inr ⟨_, _, rfl, rfl⟩))
    · cases e
    · cases e
    · cases e; exact .inr (.inr (.inr ⟨_, _, rfl, rfl⟩))
theorem SK.slice {a : Option Addr} {l c : Nat} {y : Value} (h : SK (.slice a l c) y) : y = .slice a l c := by
  rcases h with rfl | ⟨q, a, b, e, rfl⟩ | ⟨a, b, e, rfl⟩ | ⟨a, b, e, rfl⟩
  · rfl
  all_goals cases e
theorem SK.int {k : IntKind} {z : Int} {y : Value} (h : SK (.int k z) y) : ∃ b, y = .int k b := by
  rcases h with rfl | ⟨q, a, b, e, rfl⟩ | ⟨a, b, e, rfl⟩ | ⟨a, b, e, rfl⟩
  · exact ⟨_, rfl⟩
  · cases e; exact ⟨_, rfl⟩
  all_goals cases e
theorem SK.bool {z : Bool} {y : Value} (h : SK (.bool z) y) : ∃ b, y = .bool b := by
  rcases h with rfl | ⟨q, a, b, e, rfl⟩ | ⟨a, b, e, rfl⟩ | ⟨a, b, e, rfl⟩
  · exact ⟨_, rfl⟩
  · cases e
  · cases e; exact ⟨_, rfl⟩
  · cases e
theorem SK.string {z : ByteArray} {y : Value} (h : SK (.string z) y) : ∃ b, y = .string b := by
  rcases h with rfl | ⟨q, a, b, e, rfl⟩ | ⟨a, b, e, rfl⟩ | ⟨a, b, e, rfl⟩
  · exact ⟨_, rfl⟩
  · cases e
  · cases e
  · cases e; exact ⟨_, rfl⟩
theorem SK.ints (k : IntKind) (a b : Int) : SK (.int k a) (.int k b) := .inr (.inl ⟨_, _, _, rfl, rfl⟩)
theorem SK.bools (a b : Bool) : SK (.bool a) (.bool b) := .inr (.inr (.inl ⟨_, _, rfl, rfl⟩))
theorem SK.strings (a b : ByteArray) : SK (.string a) (.string b) := .inr (.inr (.inr ⟨_, _, rfl, rfl⟩))
/-- Only blocks from B up to E were written, each cell with a value of its kind. -/
structure MK (B E : Nat) (W V : World) : Prop where
  os : V.os = W.os
  tape : V.tape = W.tape
  output : V.output = W.output
  size : W.heap.size ≤ V.heap.size
  block : ∀ k, k < W.heap.size → (k < B ∨ E ≤ k) → V.heap[k]? = W.heap[k]?
  kind : ∀ b o x, W.cell? ⟨b, o, none⟩ = some x → ∃ y, V.cell? ⟨b, o, none⟩ = some y ∧ SK x y
  froz : ∀ b o x, W.cell? ⟨b, o, none⟩ = some x → V.frozen? ⟨b, o, none⟩ = W.frozen? ⟨b, o, none⟩
theorem MK.refl (B E : Nat) (W : World) : MK B E W W := ⟨rfl, rfl, rfl, Nat.le_refl _, fun _ _ _ => rfl, fun _ _ x h => ⟨x, h, .refl _⟩, fun _ _ _ _ => rfl⟩
theorem MK.trans {B E : Nat} {X Y Z : World} (h : MK B E X Y) (k : MK B E Y Z) : MK B E X Z :=
  ⟨k.os.trans h.os, k.tape.trans h.tape, k.output.trans h.output, Nat.le_trans h.size k.size, fun i hi ho => (k.block i (Nat.lt_of_lt_of_le hi h.size) ho).trans (h.block i hi ho),
   fun b o x hx => by
    obtain ⟨y, hy, s1⟩ := h.kind b o x hx
    obtain ⟨z, hz, s2⟩ := k.kind b o y hy
    exact ⟨z, hz, s1.trans s2⟩,
   fun b o x hx => by
    obtain ⟨y, hy, s1⟩ := h.kind b o x hx
    exact (k.froz b o y hy).trans (h.froz b o x hx)⟩
theorem MK.later {B E : Nat} {X W V : World} (h : MK B E X W) (hb : Below W.heap.size W V) : MK B E X V :=
  h.trans ⟨hb.os, hb.tape, hb.output, hb.size, fun k hk _ => hb.block k hk, fun b o x hx => ⟨x, cell_later hb hx, .refl _⟩, fun b o x hx => World.frozen?_of_block (hb.block _ (World.block_lt_of_cell? W _ hx))⟩
theorem MK.set {B E : Nat} {X W : World} {b o : Nat} {x : Value} (h : MK B E X W) (hc : W.cell? ⟨b, o, none⟩ = some x) (y : Value) (hs : SK x y) (h1 : B ≤ b) (h2 : b < E) : MK B E X (W.setCell ⟨b, o, none⟩ y) :=
  h.trans ⟨rfl, rfl, rfl, by simp, fun k hk hk2 => Below.heap_setCell _ _ _ _ (by simp; omega),
    fun b' o' x' hx' => by
      by_cases e : (⟨b, o, none⟩ : Addr) = ⟨b', o', none⟩
      · injection e with e1 e2
        subst e1 e2
        rw [hc] at hx'
        cases hx'
        exact ⟨y, World.cell?_setCell_same (w := W) (a := ⟨b, o, none⟩) (v := y) hc, hs⟩
      · exact ⟨x', by rw [World.cell?_setCell_other (w := W) (a := ⟨b, o, none⟩) (b := ⟨b', o', none⟩) (v := y) e]; exact hx', .refl _⟩,
    fun b' o' x' hx' => World.frozen?_setCell ..⟩
/-- A slice of l elements of k cells each, in blocks from B up to E. -/
def KS (k : Nat) (R : World → Nat → Nat → List Value → Prop) (W : World) (B E l : Nat) (v : Value) : Prop :=
  ∃ a c, v = .slice a l c ∧ (l ≠ 0 → ∃ b o, a = some ⟨b, o, none⟩ ∧ B ≤ b ∧ b < E ∧ ∀ i, i < l → ∃ u, u.length = k ∧ At W b (o + i * k) u ∧ R W B E u)
/-- What one may do with a cell in a later world. -/
theorem MK.cell {B E : Nat} {W V : World} (h : MK B E W V) (hn : NF B W) {b o : Nat} {x : Value} (hx : W.cell? ⟨b, o, none⟩ = some x) (hb : B ≤ b) : ∃ y, V.cell? ⟨b, o, none⟩ = some y ∧ SK x y ∧ V.frozen? ⟨b, o, none⟩ = false := by
  obtain ⟨y, hy, hs⟩ := h.kind b o x hx
  exact ⟨y, hy, hs, (h.froz b o x hx).trans (hn b o x hb hx)⟩
end Go.Proofs.YtdmmbhemmbgcpabGreat
