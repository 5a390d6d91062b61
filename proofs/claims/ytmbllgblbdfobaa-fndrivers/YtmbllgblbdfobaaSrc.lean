/- The drawing functions' source: a block with the code, the place in it and the seed; what byte, next and chance answer. -/
import Derived.Test.YtmbllgblbdfobaaStr
import Derived.OneCell
import Derived.BigRegion
namespace Go.Proofs.Ytmbllgblbdfobaa
open Go.RowKit
/-- A slice of n bytes that lies below B. -/
def BL (B : Nat) (a : Option Addr) (n : Nat) (W : World) : Prop :=
  n = 0 ∨ ∃ cb off, a = some ⟨cb, off, none⟩ ∧ cb < B ∧ ∀ i, i < n → ∃ x : UInt8, W.cell? ⟨cb, off + i, none⟩ = some (.int .u8 (x.toNat : Int))
/-- The source at block b: at most t bytes were drawn. -/
def Src (B b t : Nat) (W : World) : Prop :=
  ∃ a n cap, ∃ x y : Nat, ∃ ty, B ≤ b ∧ n ≤ 1048576 ∧ BL B a n W ∧ x ≤ t ∧ y < 2147483648 ∧ W.heap[b]? = some (.cells #[.slice a n cap, .int .i64 x, .int .i64 y] ty (0, 0))
theorem grown_refl (w : World) (r : Option Nat) : w.grownBy w r := ⟨rfl, rfl, rfl, Nat.le_refl _, fun _ _ _ => rfl⟩
theorem grown_trans {w w1 w2 : World} {r : Option Nat} (h1 : w.grownBy w1 r) (h2 : w1.grownBy w2 r) : w.grownBy w2 r :=
  ⟨h2.os.trans h1.os, h2.tape.trans h1.tape, h2.output.trans h1.output, Nat.le_trans h1.size h2.size, fun k hk hne => (h2.block k (Nat.lt_of_lt_of_le hk h1.size) hne).trans (h1.block k hk hne)⟩
theorem grown_set {w w1 : World} {b : Nat} (h : w.grownBy w1 (some b)) (i : Nat) (v : Value) : w.grownBy (w1.setCell ⟨b, i, none⟩ v) (some b) :=
  ⟨h.os, h.tape, h.output, by simpa using h.size, fun k hk hne => (Below.heap_setCell _ _ _ _ (fun e => hne (by simpa using e))).trans (h.block k hk hne)⟩
theorem grown_drew {w w1 : World} {r : Option Nat} (h : w.grownBy w1 r) (n : Nat) : w.grownBy (w1.drewN n) r := ⟨h.os, h.tape, h.output, h.size, h.block⟩
theorem grown_of_below {w w1 : World} {r : Option Nat} (h : Below w.heap.size w w1) : w.grownBy w1 r := ⟨h.os, h.tape, h.output, h.size, fun k hk _ => h.block k hk⟩
theorem below_of_grown {B b : Nat} {w w1 : World} (h : w.grownBy w1 (some b)) (hb : B ≤ b) (hB : B ≤ w.heap.size) : Below B w w1 :=
  ⟨h.os, h.tape, h.output, h.size, fun k hk => h.block k (by omega) (fun e => by simp at e; omega)⟩
theorem BL_kept {B : Nat} {a : Option Addr} {n : Nat} {W W' : World} {r : Option Nat} (h : BL B a n W) (hg : W.grownBy W' r) (hr : ∀ k, r = some k → B ≤ k) : BL B a n W' := by
  rcases h with h | ⟨cb, off, rfl, hcb, hc⟩
  · exact .inl h
  · refine .inr ⟨cb, off, rfl, hcb, fun i hi => ?_⟩
    obtain ⟨x, hx⟩ := hc i hi
    exact ⟨x, hg.cell hx (fun e => by have := hr _ e.symm; simp at this; omega)⟩
theorem Src_kept {B b t : Nat} {W W' : World} {r : Option Nat} (h : Src B b t W) (hg : W.grownBy W' r) (hr : ∀ k, r = some k → B ≤ k) (hne : r ≠ some b) : Src B b t W' := by
  obtain ⟨a, n, cap, x, y, ty, h1, h2, h3, h4, h5, h6⟩ := h
  exact ⟨a, n, cap, x, y, ty, h1, h2, BL_kept h3 hg hr, h4, h5, (hg.block b (lt_of_block h6) (fun e => hne e.symm)).trans h6⟩
theorem Src_mono {B b t t' : Nat} {W : World} (h : Src B b t W) (ht : t ≤ t') : Src B b t' W := by
  obtain ⟨a, n, cap, x, y, ty, h1, h2, h3, h4, h5, h6⟩ := h
  exact ⟨a, n, cap, x, y, ty, h1, h2, h3, by omega, h5, h6⟩
theorem Src_drew {B b t : Nat} {W : World} (h : Src B b t W) (n : Nat) : Src B b t (W.drewN n) := Src_kept (r := none) h (grown_drew (grown_refl _ _) n) (by simp) (by simp)
theorem cells_set {w : World} {b i : Nat} {arr : Array Value} {u : Value} {t : TypeId} (h : w.heap[b]? = some (.cells arr t (0, 0))) : (w.setCell ⟨b, i, none⟩ u).heap[b]? = some (.cells (arr.setIfInBounds i u) t (0, 0)) := by
  have hlt := lt_of_block h
  have h' : w.heap[b] = .cells arr t (0, 0) := by simpa [Array.getElem?_eq_getElem hlt] using h
  show (w.heap.modify b _)[b]? = _
  rw [Array.getElem?_eq_getElem (by simpa using hlt), Array.getElem_modify_self, h']
  rfl
theorem cells_at {w : World} {b i : Nat} {arr : Array Value} {u : Value} {t : TypeId} (h : w.heap[b]? = some (.cells arr t (0, 0))) (hu : arr[i]? = some u) : w.cell? ⟨b, i, none⟩ = some u := by simp [World.cell?, h, hu]
theorem cells_free {w : World} {b i : Nat} {arr : Array Value} {t : TypeId} (h : w.heap[b]? = some (.cells arr t (0, 0))) : w.frozen? ⟨b, i, none⟩ = false := by simp [World.frozen?, h]
theorem Src_two {B b t : Nat} {W : World} {a : Option Addr} {n cap x y : Nat} {ty : TypeId} {v2 : Value} (h1 : B ≤ b) (h2 : n ≤ 1048576) (h3 : BL B a n W) (h4 : x ≤ t) (h5 : y < 2147483648) (h6 : W.heap[b]? = some (.cells #[.slice a n cap, v2, .int .i64 y] ty (0, 0))) :
    Src B b t (W.setCell ⟨b, 1, none⟩ (.int .i64 x)) :=
  ⟨a, n, cap, x, y, ty, h1, h2, BL_kept h3 (grown_set (grown_refl _ _) 1 _) (fun k e => by simp at e; omega), h4, h5, cells_set h6⟩
/-- The source's block behind a draw. -/
theorem Src_drawn {B b t : Nat} {w W : World} {a : Option Addr} {n cap x y : Nat} {ty : TypeId} (h1 : B ≤ b) (h2 : n ≤ 1048576) (h3 : BL B a n w) (hg : w.grownBy W (some b)) (h4 : x ≤ t) (h5 : y < 2147483648) (h6 : W.heap[b]? = some (.cells #[.slice a n cap, .int .i64 x, .int .i64 y] ty (0, 0))) :
    Src B b t W ∧ w.grownBy W (some b) :=
  ⟨⟨a, n, cap, x, y, ty, h1, h2, BL_kept h3 hg (fun k e => by simp at e; omega), h4, h5, h6⟩, hg⟩
set_option maxRecDepth 100000 in
set_option maxHeartbeats 400000 in
theorem dByte (B b t : Nat) (w : World) (h : Src B b t w) (ht : t < 1099511627776) :
    Calls Try.prog 79 #[.pointer (some ⟨b, 0, none⟩)] w fun e w' => (∃ r : Nat, r < 256 ∧ e = .returned (.int .i64 r)) ∧ Src B b (t + 1) w' ∧ w.grownBy w' (some b) := by
  obtain ⟨a, n, cap, x, y, ty, h1, h2, h3, h4, h5, h6⟩ := h
  have c0 := cells_at (i := 0) (u := .slice a n cap) h6 rfl
  have c1 := cells_at (i := 1) (u := .int .i64 x) h6 rfl
  have c2 := cells_at (i := 2) (u := .int .i64 y) h6 rfl
  have f1 := cells_free (i := 1) h6
  have f2 := cells_free (i := 2) h6
  have H6 := hide h6
  have H3 := hide h3
  clear h6
  by_cases hx : x + 1 ≤ n
  · obtain h3 | ⟨cb, off, rfl, hcb, hc⟩ := h3
    · omega
    obtain ⟨d, hd⟩ := hc x (by omega)
    have hne : cb ≠ b := by omega
    have hd256 : d.toNat < 256 := d.toNat_lt
    have j1 : (x : Int) + 1 ≤ n := by omega
    have j2 : (0 : Int) ≤ x := by omega
    have j3 : (x : Int) < n := by omega
    clear hc
    go_enter Try.func79, Try.ntmps79
    go_wp2
    have w1h := grown_set (grown_refl w (some b)) 1 (.int .i64 ((x : Int) + 1))
    have k0 : (w.setCell ⟨b, 1, none⟩ (.int .i64 ((x : Int) + 1))).cell? ⟨b, 0, none⟩ = some (.slice (some ⟨cb, off, none⟩) n cap) := by go_simp
    have k1 : (w.setCell ⟨b, 1, none⟩ (.int .i64 ((x : Int) + 1))).cell? ⟨b, 1, none⟩ = some (.int .i64 ((x : Int) + 1)) := by go_simp
    have k2 : (w.setCell ⟨b, 1, none⟩ (.int .i64 ((x : Int) + 1))).cell? ⟨b, 2, none⟩ = some (.int .i64 y) := by go_simp
    have kd : (w.setCell ⟨b, 1, none⟩ (.int .i64 ((x : Int) + 1))).cell? ⟨cb, off + x, none⟩ = some (.int .u8 d.toNat) := by go_simp
    have g2 : (w.setCell ⟨b, 1, none⟩ (.int .i64 ((x : Int) + 1))).frozen? ⟨b, 2, none⟩ = false := by go_simp
    generalize hw1 : w.setCell ⟨b, 1, none⟩ (.int .i64 ((x : Int) + 1)) = w1 at *
    have HW := hide hw1
    clear hw1
    go_quiet (fail)
    go_wp2
    go_big_region
    go_wp2
    first | go_quiet (fail) | skip
    go_wp2
    go_ret
    refine ⟨⟨d.toNat, hd256, rfl⟩, ?_⟩
    have ev : ((y : Int) * 31 + d.toNat + 7) % 2147483648 = (((y * 31 + d.toNat + 7) % 2147483648 : Nat) : Int) := by omega
    rw [ev]
    have hw1 := unhide HW
    subst hw1
    exact Src_drawn (x := x + 1) (y := (y * 31 + d.toNat + 7) % 2147483648) h1 h2 (unhide H3) (grown_drew (grown_set (grown_drew w1h _) 2 _) _) (by omega) (Nat.mod_lt _ (by decide)) (cells_set (cells_set (unhide H6)))
  · by_cases hb : 3000 < x + 1
    · have j1 : ¬ ((x : Int) + 1 ≤ n) := by omega
      have j4 : (3000 : Int) < (x : Int) + 1 := by omega
      go_enter Try.func79, Try.ntmps79
      go_wp2
      go_quiet (fail)
      go_wp2
      go_ret
      refine ⟨⟨0, by decide, rfl⟩, ?_⟩
      exact Src_drawn (x := x + 1) (y := y) h1 h2 (unhide H3) (grown_drew (grown_set (grown_refl w (some b)) 1 _) _) (by omega) h5 (cells_set (unhide H6))
    · have j1 : ¬ ((x : Int) + 1 ≤ n) := by omega
      have j4 : ¬ ((3000 : Int) < (x : Int) + 1) := by omega
      go_enter Try.func79, Try.ntmps79
      go_wp2
      go_quiet (fail)
      go_wp2
      go_ret
      have ev : ((y : Int) * 1103515245 + 12345) % 2147483648 = (((y * 1103515245 + 12345) % 2147483648 : Nat) : Int) := by omega
      have hlt := Nat.mod_lt (y * 1103515245 + 12345) (show 0 < 2147483648 by decide)
      rw [ev]
      refine ⟨⟨(y * 1103515245 + 12345) % 2147483648 / 65536 % 256, Nat.mod_lt _ (by decide), ?_⟩, ?_⟩
      · exact rfl
      · exact Src_drawn (x := x + 1) (y := (y * 1103515245 + 12345) % 2147483648) h1 h2 (unhide H3) (grown_set (grown_drew (grown_set (grown_refl w (some b)) 1 _) _) 2 _) (by omega) hlt (cells_set (cells_set (unhide H6)))
set_option maxHeartbeats 400000 in
theorem dNext (m B b t : Nat) (w : World) (h : Src B b t w) (ht : t < 1099511627776) (hm : 1 ≤ m) (hm2 : m ≤ 256) :
    Calls Try.prog 46 #[.pointer (some ⟨b, 0, none⟩), .int .i64 m] w fun e w' => (∃ r : Nat, r < m ∧ e = .returned (.int .i64 r)) ∧ Src B b (t + 1) w' ∧ w.grownBy w' (some b) := by
  by_cases h1 : m ≤ 1
  · have j1 : (m : Int) ≤ 1 := by omega
    go_enter Try.func46, Try.ntmps46
    go_wp2
    go_ret
    exact ⟨⟨0, by omega, rfl⟩, Src_mono h (by omega), grown_refl _ _⟩
  · have j1 : ¬ (m : Int) ≤ 1 := by omega
    have j2 : (m : Int) ≤ 256 := by omega
    have H := hide h
    clear h
    go_enter Try.func46, Try.ntmps46
    go_wp2_with fail
    refine (dByte B b t _ (unhide H) ht).mono ?_
    rintro e w1 ⟨⟨r, hr, rfl⟩, hS, hg⟩
    have HS := hide hS
    have HG := hide hg
    clear hS hg H
    go_wp2
    go_ret
    refine ⟨⟨r % m, Nat.mod_lt _ (by omega), ?_⟩, unhide HS, unhide HG⟩
    exact rfl
set_option maxHeartbeats 400000 in
theorem dChance (m B b t : Nat) (w : World) (h : Src B b t w) (ht : t < 1099511627776) (hm : 1 ≤ m) (hm2 : m ≤ 256) :
    Calls Try.prog 74 #[.pointer (some ⟨b, 0, none⟩), .int .i64 m] w fun e w' => (∃ r : Bool, e = .returned (.bool r)) ∧ Src B b (t + 1) w' ∧ w.grownBy w' (some b) := by
  have H := hide h
  clear h
  go_enter Try.func74, Try.ntmps74
  go_wp2_with fail
  refine (dNext m B b t _ (unhide H) ht hm hm2).mono ?_
  rintro e w1 ⟨⟨r, hr, rfl⟩, hS, hg⟩
  have HS := hide hS
  have HG := hide hg
  clear hS hg H
  go_wp2
  go_ret
  exact ⟨⟨_, rfl⟩, unhide HS, unhide HG⟩
set_option maxHeartbeats 400000 in
theorem dWidth (B b t : Nat) (w : World) (h : Src B b t w) (ht : t < 1099511627000) :
    Calls Try.prog 59 #[.pointer (some ⟨b, 0, none⟩)] w fun e w' => (∃ r : Nat, 1 ≤ r ∧ r ≤ 64 ∧ e = .returned (.int .i64 r)) ∧ Src B b (t + 2) w' ∧ w.grownBy w' (some b) := by
  have H := hide h
  clear h
  go_enter Try.func59, Try.ntmps59
  go_wp2_with fail
  refine (dNext 8 B b t _ (unhide H) (by omega) (by omega) (by omega)).mono ?_
  rintro e w1 ⟨⟨r, hr, rfl⟩, hS, hg⟩
  have HS := hide hS
  have HG := hide hg
  clear hS hg H
  by_cases r0 : r = 0
  · subst r0
    go_wp2
    go_ret
    exact ⟨⟨64, by omega, by omega, rfl⟩, Src_mono (unhide HS) (by omega), unhide HG⟩
  by_cases r1 : r = 1
  · subst r1
    go_wp2_with fail
    refine (dNext 64 B b (t + 1) _ (unhide HS) (by omega) (by omega) (by omega)).mono ?_
    rintro e w2 ⟨⟨r, hr, rfl⟩, hS2, hg2⟩
    have HS2 := hide hS2
    have HG2 := hide hg2
    clear hS2 hg2 HS
    go_wp2
    go_ret
    exact ⟨⟨1 + r, by omega, by omega, by go_num⟩, unhide HS2, grown_trans (unhide HG) (unhide HG2)⟩
  by_cases r2 : r = 2
  · subst r2
    go_wp2
    go_ret
    exact ⟨⟨1, by omega, by omega, rfl⟩, Src_mono (unhide HS) (by omega), unhide HG⟩
  have j0 : ((r : Int) == 0) = false := by rw [beq_eq_false_iff_ne]; omega
  have j1 : ((r : Int) == 1) = false := by rw [beq_eq_false_iff_ne]; omega
  have j2 : ((r : Int) == 2) = false := by rw [beq_eq_false_iff_ne]; omega
  go_wp2_with fail
  refine (dNext 9 B b (t + 1) _ (unhide HS) (by omega) (by omega) (by omega)).mono ?_
  rintro e w2 ⟨⟨r, hr, rfl⟩, hS2, hg2⟩
  have HS2 := hide hS2
  have HG2 := hide hg2
  clear hS2 hg2 HS
  go_wp2
  go_ret
  exact ⟨⟨1 + r, by omega, by omega, by go_num⟩, unhide HS2, grown_trans (unhide HG) (unhide HG2)⟩
end Go.Proofs.Ytmbllgblbdfobaa
