/- The drawing functions' source: a block with the code, the place in it and the seed; what byte, next and chance answer. -/
/- What the drawing functions vector, oddVector and l01Source answer. -/
/- What oddVector, l01Source and DrawResolve answer. -/
/- What KnownOf draws: two known texts of one width of at most 30. -/
/- What the laws' at answers: a number below n. -/
import Derived.Test.YtmbllgblbdfobaaG11S13
import Derived.OneCell
import Derived.BigRegion
import Derived.Test.YtmbllgblbdfobaaG1Rsz
namespace Go.Proofs.Ytmbllgblbdfobaa
open Go.RowKit
/-- A slice of n bytes that lies below B. -/
def BL (B : Nat) (a : Option Addr) (n : Nat) (W : World) : Prop :=
  n = 0 ∨ ∃ cb off, a = some ⟨cb, off, none⟩ ∧ cb < B ∧ ∀ i, i < n → ∃ x : UInt8, W.cell? ⟨cb, off + i, none⟩ = some (.int .u8 (x.toNat : Int))
/-- The source at block b: at most t bytes were drawn. -/
def Src (B b t : Nat) (W : World) : Prop :=
  ∃ a n cap, ∃ x y : Nat, ∃ ty, B ≤ b ∧ n ≤ 1048576 ∧ BL B a n W ∧ x ≤ t ∧ y < 2147483648 ∧ W.heap[b]? = some (.cells #[.slice a n cap, .int .i64 x, .int .i64 y] ty (0, 0))
theorem grown_refl (w : World) (r : Option Nat) : w.grownBy w r := ⟨rfl, rfl, rfl, Nat.le_refl _, fun _ _ _ => rfl⟩
theorem grown_trans {w w1 w2 : World} {r : Option Nat} (h1 : w.grownBy w1 r) (h2 : w1.grownBy w2 r) : w.grownBy w2 r :=
  ⟨h2.os.trans h1.os, h2.tape.trans h1.tape, h2.output.trans h1.output, Nat.le_trans h1.size h2.size, fun k hk hne => (h2.block k (Nat.lt_of_lt_of_le hk h1.size) hne).trans (h1.block k hk hne)⟩
theorem grown_set {w w1 : World} {b : Nat} (h : w.grownBy w1 (some b)) (i : Nat) (v : Value) : w.grownBy (w1.setCell ⟨b, i, none⟩ v) (some b) :=
  ⟨h.os, h.tape, h.output, by simpa using h.size, fun k hk hne => (Below.heap_setCell _ _ _ _ (fun e => hne (by simpa using e))).trans (h.block k hk hne)⟩
theorem grown_drew {w w1 : World} {r : Option Nat} (h : w.grownBy w1 r) (n : Nat) : w.grownBy (w1.drewN n) r := ⟨h.os, h.tape, h.output, h.size, h.block⟩
theorem grown_of_below {w w1 : World} {r : Option Nat} (h : Below w.heap.size w w1) : w.grownBy w1 r := ⟨h.os, h.tape, h.output, h.size, fun k hk _ => h.block k hk⟩
theorem below_of_grown {B b : Nat} {w w1 : World} (h : w.grownBy w1 (some b)) (hb : B ≤ b) (hB : B ≤ w.heap.size) : Below B w w1 :=
  ⟨h.os, h.tape, h.output, h.size, fun k hk => h.block k (by omega) (fun e => by simp at e; omega)⟩
theorem BL_kept {B : Nat} {a : Option Addr} {n : Nat} {W W' : World} {r : Option Nat} (h : BL B a n W) (hg : W.grownBy W' r) (hr : ∀ k, r = some k → B ≤ k) : BL B a n W' := by
  rcases h with h | ⟨cb, off, rfl, hcb, hc⟩
  · exact .inl h
  · refine .inr ⟨cb, off, rfl, hcb, fun i hi => ?_⟩
    obtain ⟨x, hx⟩ := hc i hi
    exact ⟨x, hg.cell hx (fun e => by have := hr _ e.symm; simp at this; omega)⟩
theorem Src_kept {B b t : Nat} {W W' : World} {r : Option Nat} (h : Src B b t W) (hg : W.grownBy W' r) (hr : ∀ k, r = some k → B ≤ k) (hne : r ≠ some b) : Src B b t W' := by
  obtain ⟨a, n, cap, x, y, ty, h1, h2, h3, h4, h5, h6⟩ := h
  exact ⟨a, n, cap, x, y, ty, h1, h2, BL_kept h3 hg hr, h4, h5, (hg.block b (lt_of_block h6) (fun e => hne e.symm)).trans h6⟩
theorem Src_mono {B b t t' : Nat} {W : World} (h : Src B b t W) (ht : t ≤ t') : Src B b t' W := by
  obtain ⟨a, n, cap, x, y, ty, h1, h2, h3, h4, h5, h6⟩ := h
  exact ⟨a, n, cap, x, y, ty, h1, h2, h3, by omega, h5, h6⟩
theorem Src_drew {B b t : Nat} {W : World} (h : Src B b t W) (n : Nat) : Src B b t (W.drewN n) := Src_kept (r := none) h (grown_drew (grown_refl _ _) n) (by simp) (by simp)
theorem cells_set {w : World} {b i : Nat} {arr : Array Value} {u : Value} {t : TypeId} (h : w.heap[b]? = some (.cells arr t (0, 0))) : (w.setCell ⟨b, i, none⟩ u).heap[b]? = some (.cells (arr.setIfInBounds i u) t (0, 0)) := by
  have hlt := lt_of_block h
  have h' : w.heap[b] = .cells arr t (0, 0) := by simpa [Array.getElem?_eq_getElem hlt] using h
  show (w.heap.modify b _)[b]? = _
  rw [Array.getElem?_eq_getElem (by simpa using hlt), Array.getElem_modify_self, h']
  rfl
theorem cells_at {w : World} {b i : Nat} {arr : Array Value} {u : Value} {t : TypeId} (h : w.heap[b]? = some (.cells arr t (0, 0))) (hu : arr[i]? = some u) : w.cell? ⟨b, i, none⟩ = some u := by simp [World.cell?, h, hu]
theorem cells_free {w : World} {b i : Nat} {arr : Array Value} {t : TypeId} (h : w.heap[b]? = some (.cells arr t (0, 0))) : w.frozen? ⟨b, i, none⟩ = false := by simp [World.frozen?, h]
theorem Src_two {B b t : Nat} {W : World} {a : Option Addr} {n cap x y : Nat} {ty : TypeId} {v2 : Value} (h1 : B ≤ b) (h2 : n ≤ 1048576) (h3 : BL B a n W) (h4 : x ≤ t) (h5 : y < 2147483648) (h6 : W.heap[b]? = some (.cells #[.slice a n cap, v2, .int .i64 y] ty (0, 0))) :
    Src B b t (W.setCell ⟨b, 1, none⟩ (.int .i64 x)) :=
  ⟨a, n, cap, x, y, ty, h1, h2, BL_kept h3 (grown_set (grown_refl _ _) 1 _) (fun k e => by simp at e; omega), h4, h5, cells_set h6⟩
/-- The source's block behind a draw. -/
theorem Src_drawn {B b t : Nat} {w W : World} {a : Option Addr} {n cap x y : Nat} {ty : TypeId} (h1 : B ≤ b) (h2 : n ≤ 1048576) (h3 : BL B a n w) (hg : w.grownBy W (some b)) (h4 : x ≤ t) (h5 : y < 2147483648) (h6 : W.heap[b]? = some (.cells #[.slice a n cap, .int .i64 x, .int .i64 y] ty (0, 0))) :
    Src B b t W ∧ w.grownBy W (some b) :=
  ⟨⟨a, n, cap, x, y, ty, h1, h2, BL_kept h3 hg (fun k e => by simp at e; omega), h4, h5, h6⟩, hg⟩
set_option maxRecDepth 100000 in
set_option maxHeartbeats 400000 in
theorem dByte (B b t : Nat) (w : World) (h : Src B b t w) (ht : t < 1099511627776) :
    Calls Try.prog 79 #[.pointer (some ⟨b, 0, none⟩)] w fun e w' => (∃ r : Nat, r < 256 ∧ e = .returned (.int .i64 r)) ∧ Src B b (t + 1) w' ∧ w.grownBy w' (some b) := by
  obtain ⟨a, n, cap, x, y, ty, h1, h2, h3, h4, h5, h6⟩ := h
  have c0 := cells_at (i := 0) (u := .slice a n cap) h6 rfl
  have c1 := cells_at (i := 1) (u := .int .i64 x) h6 rfl
  have c2 := cells_at (i := 2) (u := .int .i64 y) h6 rfl
  have f1 := cells_free (i := 1) h6
  have f2 := cells_free (i := 2) h6
  have H6 := hide h6
  have H3 := hide h3
  clear h6
  by_cases hx : x + 1 ≤ n
  · obtain h3 | ⟨cb, off, rfl, hcb, hc⟩ := h3
    · omega
    obtain ⟨d, hd⟩ := hc x (by omega)
    have hne : cb ≠ b := by omega
    have hd256 : d.toNat < 256 := d.toNat_lt
    have j1 : (x : Int) + 1 ≤ n := by omega
    have j2 : (0 : Int) ≤ x := by omega
    have j3 : (x : Int) < n := by omega
    clear hc
    go_enter Try.func79, Try.ntmps79
    go_wp2
    have w1h := grown_set (grown_refl w (some b)) 1 (.int .i64 ((x : Int) + 1))
    have k0 : (w.setCell ⟨b, 1, none⟩ (.int .i64 ((x : Int) + 1))).cell? ⟨b, 0, none⟩ = some (.slice (some ⟨cb, off, none⟩) n cap) := by go_simp
    have k1 : (w.setCell ⟨b, 1, none⟩ (.int .i64 ((x : Int) + 1))).cell? ⟨b, 1, none⟩ = some (.int .i64 ((x : Int) + 1)) := by go_simp
    have k2 : (w.setCell ⟨b, 1, none⟩ (.int .i64 ((x : Int) + 1))).cell? ⟨b, 2, none⟩ = some (.int .i64 y) := by go_simp
    have kd : (w.setCell ⟨b, 1, none⟩ (.int .i64 ((x : Int) + 1))).cell? ⟨cb, off + x, none⟩ = some (.int .u8 d.toNat) := by go_simp
    have g2 : (w.setCell ⟨b, 1, none⟩ (.int .i64 ((x : Int) + 1))).frozen? ⟨b, 2, none⟩ = false := by go_simp
    generalize hw1 : w.setCell ⟨b, 1, none⟩ (.int .i64 ((x : Int) + 1)) = w1 at *
    have HW := hide hw1
    clear hw1
    go_quiet (fail)
    go_wp2
    go_big_region
    go_wp2
    first | go_quiet (fail) | skip
    go_wp2
    go_ret
    refine ⟨⟨d.toNat, hd256, rfl⟩, ?_⟩
    have ev : ((y : Int) * 31 + d.toNat + 7) % 2147483648 = (((y * 31 + d.toNat + 7) % 2147483648 : Nat) : Int) := by omega
    rw [ev]
    have hw1 := unhide HW
    subst hw1
    exact Src_drawn (x := x + 1) (y := (y * 31 + d.toNat + 7) % 2147483648) h1 h2 (unhide H3) (grown_drew (grown_set (grown_drew w1h _) 2 _) _) (by omega) (Nat.mod_lt _ (by decide)) (cells_set (cells_set (unhide H6)))
  · by_cases hb : 3000 < x + 1
    · have j1 : ¬ ((x : Int) + 1 ≤ n) := by omega
      have j4 : (3000 : Int) < (x : Int) + 1 := by omega
      go_enter Try.func79, Try.ntmps79
      go_wp2
      go_quiet (fail)
      go_wp2
      go_ret
      refine ⟨⟨0, by decide, rfl⟩, ?_⟩
      exact Src_drawn (x := x + 1) (y := y) h1 h2 (unhide H3) (grown_drew (grown_set (grown_refl w (some b)) 1 _) _) (by omega) h5 (cells_set (unhide H6))
    · have j1 : ¬ ((x : Int) + 1 ≤ n) := by omega
      have j4 : ¬ ((3000 : Int) < (x : Int) + 1) := by omega
      go_enter Try.func79, Try.ntmps79
      go_wp2
      go_quiet (fail)
      go_wp2
      go_ret
      have ev : ((y : Int) * 1103515245 + 12345) % 2147483648 = (((y * 1103515245 + 12345) % 2147483648 : Nat) : Int) := by omega
      have hlt := Nat.mod_lt (y * 1103515245 + 12345) (show 0 < 2147483648 by decide)
      rw [ev]
      refine ⟨⟨(y * 1103515245 + 12345) % 2147483648 / 65536 % 256, Nat.mod_lt _ (by decide), ?_⟩, ?_⟩
      · exact rfl
      · exact Src_drawn (x := x + 1) (y := (y * 1103515245 + 12345) % 2147483648) h1 h2 (unhide H3) (grown_set (grown_drew (grown_set (grown_refl w (some b)) 1 _) _) 2 _) (by omega) hlt (cells_set (cells_set (unhide H6)))
set_option maxHeartbeats 400000 in
theorem dNext (m B b t : Nat) (w : World) (h : Src B b t w) (ht : t < 1099511627776) (hm : 1 ≤ m) (hm2 : m ≤ 256) :
    Calls Try.prog 46 #[.pointer (some ⟨b, 0, none⟩), .int .i64 m] w fun e w' => (∃ r : Nat, r < m ∧ e = .returned (.int .i64 r)) ∧ Src B b (t + 1) w' ∧ w.grownBy w' (some b) := by
  by_cases h1 : m ≤ 1
  · have j1 : (m : Int) ≤ 1 := by omega
    go_enter Try.func46, Try.ntmps46
    go_wp2
    go_ret
    exact ⟨⟨0, by omega, rfl⟩, Src_mono h (by omega), grown_refl _ _⟩
  · have j1 : ¬ (m : Int) ≤ 1 := by omega
    have j2 : (m : Int) ≤ 256 := by omega
    have H := hide h
    clear h
    go_enter Try.func46, Try.ntmps46
    go_wp2_with fail
    refine (dByte B b t _ (unhide H) ht).mono ?_
    rintro e w1 ⟨⟨r, hr, rfl⟩, hS, hg⟩
    have HS := hide hS
    have HG := hide hg
    clear hS hg H
    go_wp2
    go_ret
    refine ⟨⟨r % m, Nat.mod_lt _ (by omega), ?_⟩, unhide HS, unhide HG⟩
    exact rfl
set_option maxHeartbeats 400000 in
theorem dChance (m B b t : Nat) (w : World) (h : Src B b t w) (ht : t < 1099511627776) (hm : 1 ≤ m) (hm2 : m ≤ 256) :
    Calls Try.prog 74 #[.pointer (some ⟨b, 0, none⟩), .int .i64 m] w fun e w' => (∃ r : Bool, e = .returned (.bool r)) ∧ Src B b (t + 1) w' ∧ w.grownBy w' (some b) := by
  have H := hide h
  clear h
  go_enter Try.func74, Try.ntmps74
  go_wp2_with fail
  refine (dNext m B b t _ (unhide H) ht hm hm2).mono ?_
  rintro e w1 ⟨⟨r, hr, rfl⟩, hS, hg⟩
  have HS := hide hS
  have HG := hide hg
  clear hS hg H
  go_wp2
  go_ret
  exact ⟨⟨_, rfl⟩, unhide HS, unhide HG⟩
set_option maxHeartbeats 400000 in
theorem dWidth (B b t : Nat) (w : World) (h : Src B b t w) (ht : t < 1099511627000) :
    Calls Try.prog 59 #[.pointer (some ⟨b, 0, none⟩)] w fun e w' => (∃ r : Nat, 1 ≤ r ∧ r ≤ 64 ∧ e = .returned (.int .i64 r)) ∧ Src B b (t + 2) w' ∧ w.grownBy w' (some b) := by
  have H := hide h
  clear h
  go_enter Try.func59, Try.ntmps59
  go_wp2_with fail
  refine (dNext 8 B b t _ (unhide H) (by omega) (by omega) (by omega)).mono ?_
  rintro e w1 ⟨⟨r, hr, rfl⟩, hS, hg⟩
  have HS := hide hS
  have HG := hide hg
  clear hS hg H
  by_cases r0 : r = 0
  · subst r0
    go_wp2
    go_ret
    exact ⟨⟨64, by omega, by omega, rfl⟩, Src_mono (unhide HS) (by omega), unhide HG⟩
  by_cases r1 : r = 1
  · subst r1
    go_wp2_with fail
    refine (dNext 64 B b (t + 1) _ (unhide HS) (by omega) (by omega) (by omega)).mono ?_
    rintro e w2 ⟨⟨r, hr, rfl⟩, hS2, hg2⟩
    have HS2 := hide hS2
    have HG2 := hide hg2
    clear hS2 hg2 HS
    go_wp2
    go_ret
    exact ⟨⟨1 + r, by omega, by omega, by go_num⟩, unhide HS2, grown_trans (unhide HG) (unhide HG2)⟩
  by_cases r2 : r = 2
  · subst r2
    go_wp2
    go_ret
    exact ⟨⟨1, by omega, by omega, rfl⟩, Src_mono (unhide HS) (by omega), unhide HG⟩
  have j0 : ((r : Int) == 0) = false := by rw [beq_eq_false_iff_ne]; omega
  have j1 : ((r : Int) == 1) = false := by rw [beq_eq_false_iff_ne]; omega
  have j2 : ((r : Int) == 2) = false := by rw [beq_eq_false_iff_ne]; omega
  go_wp2_with fail
  refine (dNext 9 B b (t + 1) _ (unhide HS) (by omega) (by omega) (by omega)).mono ?_
  rintro e w2 ⟨⟨r, hr, rfl⟩, hS2, hg2⟩
  have HS2 := hide hS2
  have HG2 := hide hg2
  clear hS2 hg2 HS
  go_wp2
  go_ret
  exact ⟨⟨1 + r, by omega, by omega, by go_num⟩, unhide HS2, grown_trans (unhide HG) (unhide HG2)⟩
end Go.Proofs.Ytmbllgblbdfobaa
namespace Go.Proofs.Ytmbllgblbdfobaa
open Go.RowKit
theorem grown_alloc {w W : World} {r : Option Nat} (h : w.grownBy W r) (o : Obj) : w.grownBy (W.alloc o) r :=
  ⟨h.os, h.tape, h.output, by have := h.size; simp; omega, fun k hk hne => ((World.grownBy_alloc W o none).block k (Nat.lt_of_lt_of_le hk h.size) (by simp)).trans (h.block k hk hne)⟩
/-- What was appended to a row of one's own leaves all else. -/
theorem grown_own {w W w1 : World} {b : Nat} {e : TypeId} {sz n : Nat} {v : Value} {xs : List Value} {o : Obj} (h : w.grownBy W (some b)) (ho : W.ownsRow w.heap.size e sz v n xs) (hg : (W.alloc o).grownBy w1 v.ownBlock) : w.grownBy w1 (some b) := by
  have h1 := grown_alloc h o
  refine ⟨hg.os.trans h1.os, hg.tape.trans h1.tape, hg.output.trans h1.output, Nat.le_trans h1.size hg.size, fun k hk hne => ?_⟩
  refine (hg.block k (Nat.lt_of_lt_of_le hk h1.size) (fun e => ?_)).trans (h1.block k hk hne)
  have := (ho.lt k e.symm).1
  omega
theorem Src_own {B b t Z : Nat} {W w1 : World} {e : TypeId} {sz n : Nat} {v : Value} {xs : List Value} {o : Obj} (h : Src B b t W) (ho : W.ownsRow Z e sz v n xs) (hZ : b < Z) (hg : (W.alloc o).grownBy w1 v.ownBlock) : Src B b t w1 := by
  have hBb : B ≤ b := by obtain ⟨_, _, _, _, _, _, h1, _⟩ := h; exact h1
  have h1 : Src B b t (W.alloc o) := Src_kept (r := none) h (World.grownBy_alloc W o none) (by simp) (by simp)
  exact Src_kept h1 hg (fun k e => by have := (ho.lt k e).1; omega) (fun e => by have := (ho.lt b e).1; omega)
theorem Src_lt {B b t : Nat} {W : World} (h : Src B b t W) : B ≤ b ∧ b < W.heap.size := by
  obtain ⟨_, _, _, _, _, _, h1, _, _, _, _, h6⟩ := h
  exact ⟨h1, lt_of_block h6⟩
theorem OB_ne {w W : World} {b : Nat} {v : Value} {l : List UInt8} (h : OB w.heap.size v l W) (hb : b < w.heap.size) : v.ownBlock = none ∨ v.ownBlock ≠ some b := by
  refine .inr fun e => ?_
  have := (World.ownsRow.lt h b e).1
  omega
set_option maxRecDepth 100000 in
set_option maxHeartbeats 800000 in
theorem dVector (m B b t : Nat) (w : World) (h : Src B b t w) (ht : t < 1099511627000) (hm : m ≤ 128) :
    Calls Try.prog 60 #[.pointer (some ⟨b, 0, none⟩), .int .i64 m] w fun e w' => (∃ l : List UInt8, l.length = m ∧ l.all Vb.isV = true ∧ e = .returned (.string (S l))) ∧ Src B b (t + 1 + m) w' ∧ w.grownBy w' (some b) := by
  obtain ⟨i0, hi, hz0, hz1, hz2⟩ := info_parts info5
  have hlt := (Src_lt h).2
  have H := hide h
  clear h
  go_enter Try.func60, Try.ntmps60
  go_wp2_with fail
  have hS0 : Src B b t (w.alloc (.cells #[] 5)) := Src_kept (r := none) (unhide H) (World.grownBy_alloc w _ none) (by simp) (by simp)
  refine (dNext 6 B b t _ hS0 (by omega) (by omega) (by omega)).mono ?_
  rintro e w1 ⟨⟨r, hr, rfl⟩, hS, hg⟩
  have HS := hide hS
  have HG := hide hg
  have hO : OB w.heap.size (.slice (some ⟨w.heap.size, 0, none⟩) 0 0) [] w1 := (OB_start (Nat.le_refl _)).kept hg (.inr (by simp [Value.ownBlock]; omega))
  have HO := hide hO
  clear hS hg H hS0 hO
  go_wp2
  go_loopw [5, 7] (fun v i W => ∃ k : Nat, k ≤ m ∧ i = .int .i64 k ∧ ∃ l : List UInt8, l.length = k ∧ l.all Vb.isV = true ∧ OB w.heap.size v l W ∧ Src B b (t + 1 + k) W ∧ w.grownBy W (some b)) (fun _ i _ => m - (intOf i).toNat)
  case atStart => exact ⟨0, Nat.zero_le _, rfl, [], rfl, rfl, unhide HO, unhide HS, grown_trans (World.grownBy_alloc w _ _) (unhide HG)⟩
  case round =>
    clear HS HG HO
    obtain ⟨k, hk, rfl, l, hl, hv, hO, hS, hg⟩ := hrel
    have HV := hide hv
    have HS := hide hS
    have HG := hide hg
    have HO := hide hO
    clear hv hS hg hO
    by_cases hkm : k < m
    · by_cases r0 : r = 0
      · subst r0
        go_wp2_with fail
        refine (dNext 4 B b (t + 1 + k) _ (unhide HS) (by omega) (by omega) (by omega)).mono ?_
        rintro e w2 ⟨⟨q, hq, rfl⟩, hS2, hg2⟩
        have j1 : (0 : Int) ≤ q := by omega
        have j2 : (q : Int) < 4 := by omega
        have hok : Vb.isV ((⟨#[48, 49, 120, 122]⟩ : ByteArray)[q]'hq) = true := (by decide : ∀ q, (h : q < 4) → Vb.isV ((⟨#[48, 49, 120, 122]⟩ : ByteArray)[q]'h) = true) q hq
        have HK := hide hok
        have hO2 := (unhide HO).kept hg2 (OB_ne (unhide HO) hlt)
        have HO2 := hide hO2
        have HS2 := hide hS2
        have HG2 := hide (grown_trans (unhide HG) hg2)
        have hsz2 := (grown_trans (unhide HG) hg2).size
        clear hok hS2 hg2 hO2 HO HS HG
        go_wp2_with (first | (at_builtin; refine wpList_append_own _ rfl _ _ 22 rfl w.heap.size 5 i0 (.int .u8 0) 1 1 Try.underlying22 hi hz0 hz1 hz2 rfl (by decide) _ _ _ rfl (World.ownsRow.alloc (unhide HO2) _) ⟨_, 0, none⟩ 1 1 [bv ((⟨#[48, 49, 120, 122]⟩ : ByteArray)[q]'hq)] rfl rfl (cell_one_new _ _ _) (by intro u hu; simp at hu; subst hu; rfl) (by rw [hl]; unfold maxLen; omega) (by rw [hl]; omega) (by simp; omega) ?_; intro v' w3 hown' hgrow _))
        refine ⟨by (repeat apply Exists.intro); exact ⟨⟨k + 1, by omega, by go_num, l ++ [(⟨#[48, 49, 120, 122]⟩ : ByteArray)[q]'hq], by simp [hl], by rw [List.all_append, unhide HV]; simp [unhide HK], OB_step hown', Src_mono (Src_own (unhide HS2) (unhide HO2) hlt hgrow) (by omega), grown_own (unhide HG2) (unhide HO2) hgrow⟩, rfl⟩, by simp [intOf]; omega⟩
      by_cases r1 : r = 1
      · subst r1
        go_wp2_with fail
        refine (dNext 6 B b (t + 1 + k) _ (unhide HS) (by omega) (by omega) (by omega)).mono ?_
        rintro e w2 ⟨⟨q, hq, rfl⟩, hS2, hg2⟩
        have j1 : (0 : Int) ≤ q := by omega
        have j2 : (q : Int) < 6 := by omega
        have hok : Vb.isV ((⟨#[48, 48, 48, 48, 48, 49]⟩ : ByteArray)[q]'hq) = true := (by decide : ∀ q, (h : q < 6) → Vb.isV ((⟨#[48, 48, 48, 48, 48, 49]⟩ : ByteArray)[q]'h) = true) q hq
        have HK := hide hok
        have hO2 := (unhide HO).kept hg2 (OB_ne (unhide HO) hlt)
        have HO2 := hide hO2
        have HS2 := hide hS2
        have HG2 := hide (grown_trans (unhide HG) hg2)
        have hsz2 := (grown_trans (unhide HG) hg2).size
        clear hok hS2 hg2 hO2 HO HS HG
        go_wp2_with (first | (at_builtin; refine wpList_append_own _ rfl _ _ 22 rfl w.heap.size 5 i0 (.int .u8 0) 1 1 Try.underlying22 hi hz0 hz1 hz2 rfl (by decide) _ _ _ rfl (World.ownsRow.alloc (unhide HO2) _) ⟨_, 0, none⟩ 1 1 [bv ((⟨#[48, 48, 48, 48, 48, 49]⟩ : ByteArray)[q]'hq)] rfl rfl (cell_one_new _ _ _) (by intro u hu; simp at hu; subst hu; rfl) (by rw [hl]; unfold maxLen; omega) (by rw [hl]; omega) (by simp; omega) ?_; intro v' w3 hown' hgrow _))
        refine ⟨by (repeat apply Exists.intro); exact ⟨⟨k + 1, by omega, by go_num, l ++ [(⟨#[48, 48, 48, 48, 48, 49]⟩ : ByteArray)[q]'hq], by simp [hl], by rw [List.all_append, unhide HV]; simp [unhide HK], OB_step hown', Src_mono (Src_own (unhide HS2) (unhide HO2) hlt hgrow) (by omega), grown_own (unhide HG2) (unhide HO2) hgrow⟩, rfl⟩, by simp [intOf]; omega⟩
      by_cases r2 : r = 2
      · subst r2
        go_wp2_with fail
        refine (dNext 4 B b (t + 1 + k) _ (unhide HS) (by omega) (by omega) (by omega)).mono ?_
        rintro e w2 ⟨⟨q, hq, rfl⟩, hS2, hg2⟩
        have j1 : (0 : Int) ≤ q := by omega
        have j2 : (q : Int) < 4 := by omega
        have hok : Vb.isV ((⟨#[49, 49, 49, 48]⟩ : ByteArray)[q]'hq) = true := (by decide : ∀ q, (h : q < 4) → Vb.isV ((⟨#[49, 49, 49, 48]⟩ : ByteArray)[q]'h) = true) q hq
        have HK := hide hok
        have hO2 := (unhide HO).kept hg2 (OB_ne (unhide HO) hlt)
        have HO2 := hide hO2
        have HS2 := hide hS2
        have HG2 := hide (grown_trans (unhide HG) hg2)
        have hsz2 := (grown_trans (unhide HG) hg2).size
        clear hok hS2 hg2 hO2 HO HS HG
        go_wp2_with (first | (at_builtin; refine wpList_append_own _ rfl _ _ 22 rfl w.heap.size 5 i0 (.int .u8 0) 1 1 Try.underlying22 hi hz0 hz1 hz2 rfl (by decide) _ _ _ rfl (World.ownsRow.alloc (unhide HO2) _) ⟨_, 0, none⟩ 1 1 [bv ((⟨#[49, 49, 49, 48]⟩ : ByteArray)[q]'hq)] rfl rfl (cell_one_new _ _ _) (by intro u hu; simp at hu; subst hu; rfl) (by rw [hl]; unfold maxLen; omega) (by rw [hl]; omega) (by simp; omega) ?_; intro v' w3 hown' hgrow _))
        refine ⟨by (repeat apply Exists.intro); exact ⟨⟨k + 1, by omega, by go_num, l ++ [(⟨#[49, 49, 49, 48]⟩ : ByteArray)[q]'hq], by simp [hl], by rw [List.all_append, unhide HV]; simp [unhide HK], OB_step hown', Src_mono (Src_own (unhide HS2) (unhide HO2) hlt hgrow) (by omega), grown_own (unhide HG2) (unhide HO2) hgrow⟩, rfl⟩, by simp [intOf]; omega⟩
      have j3 : ((r : Int) == 0) = false := by rw [beq_eq_false_iff_ne]; omega
      have j4 : ((r : Int) == 1) = false := by rw [beq_eq_false_iff_ne]; omega
      have j5 : ((r : Int) == 2) = false := by rw [beq_eq_false_iff_ne]; omega
      go_wp2_with fail
      refine (dNext 2 B b (t + 1 + k) _ (unhide HS) (by omega) (by omega) (by omega)).mono ?_
      rintro e w2 ⟨⟨q, hq, rfl⟩, hS2, hg2⟩
      have j1 : (0 : Int) ≤ q := by omega
      have j2 : (q : Int) < 2 := by omega
      have hok : Vb.isV ((⟨#[48, 49]⟩ : ByteArray)[q]'hq) = true := (by decide : ∀ q, (h : q < 2) → Vb.isV ((⟨#[48, 49]⟩ : ByteArray)[q]'h) = true) q hq
      have HK := hide hok
      have hO2 := (unhide HO).kept hg2 (OB_ne (unhide HO) hlt)
      have HO2 := hide hO2
      have HS2 := hide hS2
      have HG2 := hide (grown_trans (unhide HG) hg2)
      have hsz2 := (grown_trans (unhide HG) hg2).size
      clear hok hS2 hg2 hO2 HO HS HG
      go_wp2_with (first | (at_builtin; refine wpList_append_own _ rfl _ _ 22 rfl w.heap.size 5 i0 (.int .u8 0) 1 1 Try.underlying22 hi hz0 hz1 hz2 rfl (by decide) _ _ _ rfl (World.ownsRow.alloc (unhide HO2) _) ⟨_, 0, none⟩ 1 1 [bv ((⟨#[48, 49]⟩ : ByteArray)[q]'hq)] rfl rfl (cell_one_new _ _ _) (by intro u hu; simp at hu; subst hu; rfl) (by rw [hl]; unfold maxLen; omega) (by rw [hl]; omega) (by simp; omega) ?_; intro v' w3 hown' hgrow _))
      exact ⟨⟨k + 1, by omega, by go_num, l ++ [(⟨#[48, 49]⟩ : ByteArray)[q]'hq], by simp [hl], by rw [List.all_append, unhide HV]; simp [unhide HK], OB_step hown', Src_mono (Src_own (unhide HS2) (unhide HO2) hlt hgrow) (by omega), grown_own (unhide HG2) (unhide HO2) hgrow⟩, by simp [intOf]; omega⟩
    · have hcv := OB_string (unhide HO)
      have hkm' : k = m := by omega
      go_wp2
      go_ret
      subst hkm'
      exact ⟨⟨l, hl, unhide HV, rfl⟩, unhide HS, unhide HG⟩
end Go.Proofs.Ytmbllgblbdfobaa
namespace Go.Proofs.Ytmbllgblbdfobaa
open Go.RowKit
theorem Src_below {B b t : Nat} {W W' : World} (h : Src B b t W) (hb : Below W.heap.size W W') : Src B b t W' := Src_kept (r := none) h (grown_of_below hb) (by simp) (by simp)
theorem Src_alloc {B b t : Nat} {W : World} (h : Src B b t W) (o : Obj) : Src B b t (W.alloc o) := Src_kept (r := none) h (World.grownBy_alloc W o none) (by simp) (by simp)
theorem Src_draw {B b t : Nat} {W W' : World} (h : Src B b t W) (hW : ∃ n, W' = W.drewN n) : Src B b t W' := by obtain ⟨n, rfl⟩ := hW; exact Src_drew h n
theorem below_of_none {w w1 : World} (h : w.grownBy w1 none) : Below w.heap.size w w1 := ⟨h.os, h.tape, h.output, h.size, fun k hk => h.block k hk (by simp)⟩
set_option maxRecDepth 100000 in
set_option maxHeartbeats 800000 in
theorem dOdd (B b t : Nat) (w : World) (h : Src B b t w) (ht : t < 1099511626000) :
    Calls Try.prog 75 #[.pointer (some ⟨b, 0, none⟩)] w fun e w' => (∃ l : List UInt8, l.length ≤ 65 ∧ e = .returned (.string (S l))) ∧ Src B b (t + 70) w' ∧ w.grownBy w' (some b) := by
  have hlt := (Src_lt h).2
  have H := hide h
  clear h
  go_enter Try.func75, Try.ntmps75
  go_wp2_with fail
  refine (dWidth B b t _ (unhide H) (by omega)).mono ?_
  rintro e w1 ⟨⟨m, hm1, hm2, rfl⟩, hS1, hg1⟩
  have HS1 := hide hS1
  have HG1 := hide hg1
  clear hS1 hg1 H
  go_wp2_with fail
  refine (dVector m B b (t + 2) _ (unhide HS1) (by omega) (by omega)).mono ?_
  rintro e w2 ⟨⟨l, hl, hv, rfl⟩, hS2, hg2⟩
  have HS2 := hide hS2
  have HG2 := hide (grown_trans (unhide HG1) hg2)
  clear hS2 hg2 HS1 HG1 hv
  go_wp2_with fail
  refine (dNext 20 B b (t + 2 + 1 + m) _ (unhide HS2) (by omega) (by omega) (by omega)).mono ?_
  rintro e w3 ⟨⟨r, hr, rfl⟩, hS3, hg3⟩
  have HS3 := hide hS3
  have HG3 := hide (grown_trans (unhide HG2) hg3)
  clear hS3 hg3 HS2 HG2
  by_cases r0 : r = 0
  · subst r0
    have hlt3 : b < w3.heap.size := (Src_lt (unhide HS3)).2
    go_wp2_with fail
    refine (dNext 5 B b (t + 2 + 1 + m + 1) _ (Src_alloc (unhide HS3) _) (by omega) (by omega) (by omega)).mono ?_
    rintro e w4 ⟨⟨q, hq, rfl⟩, hS4, hg4⟩
    have hc : ∃ l' : List UInt8, l'.length ≤ 3 ∧ w4.cell? ⟨w3.heap.size, q, none⟩ = some (.string (S l')) := by
      have hk : ∀ (u : Value), (w3.alloc (.cells #[.string ⟨#[]⟩, .string ⟨#[50]⟩, .string ⟨#[48, 88]⟩, .string ⟨#[120, 49, 32]⟩, .string ⟨#[122, 122, 63]⟩] 9)).cell? ⟨w3.heap.size, q, none⟩ = some u → w4.cell? ⟨w3.heap.size, q, none⟩ = some u := fun u hu => hg4.cell hu (by simp; omega)
      match q, hq with
      | 0, _ => exact ⟨[], by decide, hk _ (cells_at (heap_alloc_new _ _) rfl)⟩
      | 1, _ => exact ⟨[50], by decide, hk _ (cells_at (heap_alloc_new _ _) rfl)⟩
      | 2, _ => exact ⟨[48, 88], by decide, hk _ (cells_at (heap_alloc_new _ _) rfl)⟩
      | 3, _ => exact ⟨[120, 49, 32], by decide, hk _ (cells_at (heap_alloc_new _ _) rfl)⟩
      | 4, _ => exact ⟨[122, 122, 63], by decide, hk _ (cells_at (heap_alloc_new _ _) rfl)⟩
    obtain ⟨l', hl', hcell⟩ := hc
    have HS4 := hide hS4
    have HG4 := hide (grown_trans (grown_alloc (unhide HG3) _) hg4)
    have j1 : (0 : Int) ≤ q := by omega
    have j2 : (q : Int) < 5 := by omega
    clear hS4 hg4 HS3 HG3
    go_wp2
    go_ret
    exact ⟨⟨l', by omega, rfl⟩, Src_mono (unhide HS4) (by omega), unhide HG4⟩
  by_cases r1 : r = 1
  · subst r1
    go_wp2_with fail
    refine (dNext 2 B b (t + 2 + 1 + m + 1) _ (unhide HS3) (by omega) (by omega) (by omega)).mono ?_
    rintro e w4 ⟨⟨q, hq, rfl⟩, hS4, hg4⟩
    have HS4 := hide hS4
    have HG4 := hide (grown_trans (unhide HG3) hg4)
    clear hS4 hg4 HS3 HG3
    go_wp2_with fail
    rw [show ((64 : Int) + (q : Int)) = ((64 + q : Nat) : Int) by omega]
    refine (sFill 49 (64 + q) _ (by omega)).mono ?_
    rintro e w5 ⟨rfl, hb5⟩
    have HS5 := hide (Src_below (unhide HS4) hb5)
    have HG5 := hide (grown_trans (unhide HG4) (grown_of_below hb5))
    clear hb5 HS4 HG4
    go_wp2
    go_ret
    exact ⟨⟨List.replicate (64 + q) 49, by simp; omega, rfl⟩, Src_mono (unhide HS5) (by omega), unhide HG5⟩
  have j0 : ((r : Int) == 0) = false := by rw [beq_eq_false_iff_ne]; omega
  have j1 : ((r : Int) == 1) = false := by rw [beq_eq_false_iff_ne]; omega
  go_wp2
  go_ret
  exact ⟨⟨l, by omega, rfl⟩, Src_mono (unhide HS3) (by omega), unhide HG3⟩
theorem lSource (a : Option Addr) (n cap : Nat) (w : World) (hn : n ≤ 1048576) (hB : BL w.heap.size a n w) :
    Calls Try.prog 45 #[.slice a n cap] w fun e w' => e = .returned (.pointer (some ⟨w.heap.size, 0, none⟩)) ∧ Src w.heap.size w.heap.size 0 w' ∧ w.grownBy w' none := by
  have HB := hide hB
  clear hB
  go_enter Try.func45, Try.ntmps45
  go_wp2
  go_ret
  refine ⟨rfl, ⟨a, n, cap, 0, n % 1000, 94, Nat.le_refl _, hn, BL_kept (unhide HB) (World.grownBy_alloc w _ none) (by simp), Nat.le_refl _, by omega, heap_alloc_new w _⟩, World.grownBy_alloc w _ none⟩
/-- A slice of strings of one's own. -/
def OS (B : Nat) (v : Value) (ss : List ByteArray) (W : World) : Prop := W.ownsRow B 9 1 v ss.length (ss.map Value.string)
theorem OS_start {w : World} {B : Nat} (h : B ≤ w.heap.size) : OS B (.slice (some ⟨w.heap.size, 0, none⟩) 0 0) [] (w.alloc (.cells #[] 9)) := World.ownsRow_made w #[] 0 h (by decide) rfl
theorem OS_step {B : Nat} {v : Value} {l : List ByteArray} {c : ByteArray} {W : World} (h : W.ownsRow B 9 1 v (l.length + 1) (l.map Value.string ++ [Value.string c])) : OS B v (l ++ [c]) W := by
  unfold OS; rw [List.length_append, List.map_append]; exact h
theorem OS_ne {B b : Nat} {W : World} {v : Value} {l : List ByteArray} (h : OS B v l W) (hb : b < B) : v.ownBlock = none ∨ v.ownBlock ≠ some b := by
  refine .inr fun e => ?_
  have := (World.ownsRow.lt h b e).1
  omega
theorem OS_SL {B : Nat} {v : Value} {ss : List ByteArray} {W : World} (h : OS B v ss W) (h1 : 1 ≤ ss.length) : ∃ g cap, v = .slice (some ⟨g, 0, none⟩) ss.length cap ∧ B ≤ g ∧ SL (some ⟨g, 0, none⟩) ss.length ss W ∧ ss.length ≤ cap ∧ cap ≤ maxLen := by
  have hc := fun g hg => World.ownsRow.cells h (g := g) hg
  rcases h.2 with ⟨_, hn⟩ | ⟨g, cap, cur, rfl, hb, hg, hl, hm, _⟩
  · omega
  · refine ⟨g, cap, rfl, hb, ⟨rfl, .inr ⟨g, 0, rfl, fun i hi => ?_⟩⟩, hl, hm⟩
    have := hc g rfl i (.string ss[i]) (by rw [List.getElem?_map, List.getElem?_eq_getElem hi]; rfl)
    rw [Addr.add_lit] at this
    exact this
/-- Blocks at or behind B alone have turned, and b's. -/
theorem below_own {B Z : Nat} {w W w1 : World} {e : TypeId} {sz n : Nat} {v : Value} {xs : List Value} {o : Obj} (hb : Below B w W) (hBW : B ≤ W.heap.size) (ho : W.ownsRow Z e sz v n xs) (hZ : B ≤ Z) (hg : (W.alloc o).grownBy w1 v.ownBlock) : Below B w w1 :=
  (hb.alloc hBW o).grown hg (by simp; omega) (fun k hk => by have := (ho.lt k hk).1; omega)
set_option maxRecDepth 100000 in
set_option maxHeartbeats 1000000 in
theorem dResolve (a : Option Addr) (n cap : Nat) (w : World) (hn : n ≤ 1048576) (hB : BL w.heap.size a n w) :
    Calls Try.prog 31 #[.slice a n cap] w fun e w' => (∃ g cp, ∃ ss : List ByteArray, e = .returned (.slice (some ⟨g, 0, none⟩) ss.length cp) ∧ w.heap.size ≤ g ∧ SL (some ⟨g, 0, none⟩) ss.length ss w' ∧ 1 ≤ ss.length ∧ ss.length ≤ 6 ∧ ss.length ≤ cp ∧ cp ≤ maxLen ∧ ∀ s ∈ ss, s.size ≤ 65) ∧ Below w.heap.size w w' := by
  obtain ⟨i5, hi, hz0, hz1, hz2⟩ := info_parts info5
  obtain ⟨i9, hi9, hy0, hy1, hy2⟩ := info_parts str_info9
  have HB := hide hB
  clear hB
  go_enter Try.func31, Try.ntmps31
  go_wp2_with fail
  refine (lSource a n cap _ hn (unhide HB)).mono ?_
  rintro e w1 ⟨rfl, hS1, hg1⟩
  generalize hb : w.heap.size = b at *
  have HS1 := hide hS1
  have HB1 := hide (below_of_none hg1 : Below w.heap.size w w1)
  clear hS1 hg1 HB
  go_wp2_with fail
  refine (dWidth b b 0 _ (unhide HS1) (by omega)).mono ?_
  rintro e w2 ⟨⟨m, hm1, hm2, rfl⟩, hS2, hg2⟩
  have HS2 := hide hS2
  have HB2 := hide (Below.trans (unhide HB1) (below_of_grown (B := w.heap.size) hg2 (by omega) (unhide HB1).size))
  clear hS2 hg2 HS1 HB1
  go_wp2_with fail
  refine (dNext 5 b b 2 _ (Src_alloc (unhide HS2) _) (by omega) (by omega) (by omega)).mono ?_
  rintro e w3 ⟨⟨r, hr, rfl⟩, hS3, hg3⟩
  have hlt2 : b < w2.heap.size := (Src_lt (unhide HS2)).2
  have hO : OS (b + 1) (.slice (some ⟨w2.heap.size, 0, none⟩) 0 0) [] w3 := (OS_start (by omega)).kept hg3 (.inr (by simp [Value.ownBlock]; omega))
  have HO := hide hO
  have HS3 := hide hS3
  have HB3 := hide (Below.trans ((unhide HB2).alloc (unhide HB2).size _) (below_of_grown (B := w.heap.size) hg3 (by omega) (by have := (unhide HB2).size; simp; omega)))
  clear hS3 hg3 HS2 HB2 hO hlt2
  go_wp2
  go_loopw [5, 6] (fun v i W => ∃ j : Nat, i = .int .i64 ((j : Int) - 1) ∧ ∃ ss : List ByteArray, ss.length + j = r + 1 ∧ (∀ s ∈ ss, s.size ≤ 65) ∧ OS (b + 1) v ss W ∧ Src b b (3 + 64 * ss.length) W ∧ Below b w W) (fun _ i _ => (intOf i + 1).toNat)
  case atStart => exact ⟨r + 1, by go_num, [], by simp, by simp, unhide HO, unhide HS3, by have := unhide HB3; rw [hb] at this; exact this⟩
  case round =>
    clear HO HS3 HB3
    obtain ⟨j, rfl, ss, hj, hsz, hO, hS, hbel⟩ := hrel
    have HZ := hide hsz
    have HO := hide hO
    have HS := hide hS
    have HB := hide hbel
    clear hsz hO hS hbel
    by_cases hj0 : j = 0
    · subst hj0
      have hltr : b < wr.heap.size := (Src_lt (unhide HS)).2
      go_wp2_with fail
      refine (dChance 9 b b _ _ (unhide HS) (by omega) (by omega) (by omega)).mono ?_
      rintro e w4 ⟨⟨c, rfl⟩, hS4, hg4⟩
      have hO4 := (unhide HO).kept hg4 (OS_ne (unhide HO) (by omega))
      have HO4 := hide hO4
      have HS4 := hide hS4
      have HB4 := hide (Below.trans (unhide HB) (below_of_grown (B := b) hg4 (by omega) (by omega)))
      clear hO4 hS4 hg4 HS HO HB
      cases c with
      | false =>
        obtain ⟨g, cp, hu, hbg, hSL, hcp, hcm⟩ := OS_SL (unhide HO4) (by omega)
        subst hu
        have HSL := hide hSL
        clear hSL
        go_wp2
        go_ret
        exact ⟨⟨g, cp, ss, rfl, by omega, unhide HSL, by omega, by omega, hcp, hcm, unhide HZ⟩, by rw [hb]; exact unhide HB4⟩
      | true =>
        go_wp2_with fail
        refine (dOdd b b _ _ (unhide HS4) (by omega)).mono ?_
        rintro e w5 ⟨⟨l, hl, rfl⟩, hS5, hg5⟩
        have hO5 := (unhide HO4).kept hg5 (OS_ne (unhide HO4) (by omega))
        have HO5 := hide hO5
        have hb5 := Below.trans (unhide HB4) (below_of_grown (B := b) hg5 (by omega) (by have := (Src_lt (unhide HS4)).2; omega))
        have HB5 := hide hb5
        have hsz5 := (Src_lt hS5).2
        clear hO5 hS5 hg5 HS4 HO4 HB4 hb5
        go_wp2_with (first | (at_builtin; refine wpList_append_own _ rfl _ _ 33 rfl (b + 1) 9 i9 (.string ByteArray.empty) 1 16 Try.underlying33 hi9 hy0 hy1 hy2 rfl (by decide) _ _ _ rfl (World.ownsRow.alloc (unhide HO5) _) ⟨_, 0, none⟩ 1 1 [.string (S l)] rfl rfl (cell_one_new _ _ _) (by intro u hu; simp at hu; subst hu; rfl) (by unfold maxLen; omega) (by omega) (by simp; omega) ?_; intro v' w6 hown' hgrow _))
        go_ret
        have hO6 := OS_step hown'
        obtain ⟨g, cp, rfl, hbg, hSL, hcp, hcm⟩ := OS_SL hO6 (by simp)
        have hsl : (ss ++ [S l]).length = ss.length + 1 := by simp
        refine ⟨⟨g, cp, ss ++ [S l], rfl, by omega, hSL, by omega, by omega, hcp, hcm, ?_⟩, by rw [hb]; exact below_own (unhide HB5) (by omega) (unhide HO5) (by omega) hgrow⟩
        intro s hs
        rcases List.mem_append.1 hs with hs | hs
        · exact unhide HZ s hs
        · rw [List.mem_singleton] at hs; subst hs; rw [S_size]; omega
    · have j1 : (1 : Int) ≤ (j : Int) := by omega
      go_wp2
      obtain ⟨wz, hwz⟩ : ∃ z, z = wr := ⟨_, rfl⟩
      subst hwz
      have hltr : b < wz.heap.size := (Src_lt (unhide HS)).2
      go_loopw [7, 8] (fun v k W => ∃ q : Nat, q ≤ m ∧ k = .int .i64 q ∧ ∃ l : List UInt8, l.length = q ∧ OB wz.heap.size v l W ∧ Src b b (3 + 64 * ss.length + q) W ∧ wz.grownBy W (some b)) (fun _ k _ => m - (intOf k).toNat)
      case atStart => exact ⟨0, Nat.zero_le _, rfl, [], rfl, OB_start (Nat.le_refl _), Src_alloc (unhide HS) _, World.grownBy_alloc wz _ _⟩
      case round =>
        obtain ⟨k, hk, rfl, l, hl, hO2, hS2, hg2⟩ := hrel
        have HO2 := hide hO2
        have HS2 := hide hS2
        have HG2 := hide hg2
        clear hO2 hS2 hg2
        by_cases hkm : k < m
        · go_wp2_with fail
          refine (dNext 7 b b (3 + 64 * ss.length + k) _ (unhide HS2) (by omega) (by omega) (by omega)).mono ?_
          rintro e w4 ⟨⟨q, hq, rfl⟩, hS4, hg4⟩
          have k1 : (0 : Int) ≤ q := by omega
          have k2 : (q : Int) < 7 := by omega
          have hO4 := (unhide HO2).kept hg4 (OB_ne (unhide HO2) hltr)
          have HO4 := hide hO4
          have HS4 := hide hS4
          have HG4 := hide (grown_trans (unhide HG2) hg4)
          have hsz4 := (grown_trans (unhide HG2) hg4).size
          clear hS4 hg4 hO4 HO2 HS2 HG2
          go_wp2_with (first | (at_builtin; refine wpList_append_own _ rfl _ _ 22 rfl wz.heap.size 5 i5 (.int .u8 0) 1 1 Try.underlying22 hi hz0 hz1 hz2 rfl (by decide) _ _ _ rfl (World.ownsRow.alloc (unhide HO4) _) ⟨_, 0, none⟩ 1 1 [bv ((⟨#[122, 122, 122, 122, 48, 49, 120]⟩ : ByteArray)[q]'hq)] rfl rfl (cell_one_new _ _ _) (by intro u hu; simp at hu; subst hu; rfl) (by rw [hl]; unfold maxLen; omega) (by rw [hl]; omega) (by simp; omega) ?_; intro v' w5 hown' hgrow _))
          exact ⟨⟨k + 1, by omega, by go_num, l ++ [(⟨#[122, 122, 122, 122, 48, 49, 120]⟩ : ByteArray)[q]'hq], by simp [hl], OB_step hown', Src_mono (Src_own (unhide HS4) (unhide HO4) hltr hgrow) (by omega), grown_own (unhide HG4) (unhide HO4) hgrow⟩, by simp [intOf]; omega⟩
        · have hcv := OB_string (unhide HO2)
          have hO5 := (unhide HO).kept (unhide HG2) (OS_ne (unhide HO) (by omega))
          have HO5 := hide hO5
          have hszs := (unhide HG2).size
          clear hO5
          go_wp2_with (first | (at_builtin; refine wpList_append_own _ rfl _ _ 33 rfl (b + 1) 9 i9 (.string ByteArray.empty) 1 16 Try.underlying33 hi9 hy0 hy1 hy2 rfl (by decide) _ _ _ rfl (World.ownsRow.alloc (unhide HO5) _) ⟨_, 0, none⟩ 1 1 [.string (S l)] rfl rfl (cell_one_new _ _ _) (by intro u hu; simp at hu; subst hu; rfl) (by unfold maxLen; omega) (by omega) (by simp; omega) ?_; intro v' w5 hown' hgrow _))
          have hbw : Below b w wr := Below.trans (unhide HB) (below_of_grown (unhide HG2) (Nat.le_refl _) (by omega))
          refine ⟨⟨j - 1, by congr 1; omega, ss ++ [S l], by simp; omega, ?_, OS_step hown', Src_mono (Src_own (unhide HS2) (unhide HO5) (by omega) hgrow) (by simp; omega), below_own hbw (by omega) (unhide HO5) (by omega) hgrow⟩, by simp [intOf]; omega⟩
          intro s hs
          rcases List.mem_append.1 hs with hs | hs
          · exact unhide HZ s hs
          · rw [List.mem_singleton] at hs; subst hs; rw [S_size]; omega
end Go.Proofs.Ytmbllgblbdfobaa
namespace Go.Proofs.Ytmbllgblbdfobaa
open Go.RowKit
set_option maxHeartbeats 400000 in
theorem dNextB (m B b t : Nat) (w : World) (h : Src B b t w) (ht : t < 1099511627000) (hm : 256 < m) (hm2 : m ≤ 1099511627776) :
    Calls Try.prog 46 #[.pointer (some ⟨b, 0, none⟩), .int .i64 m] w fun e w' => (∃ r : Nat, r < m ∧ e = .returned (.int .i64 r)) ∧ Src B b (t + 3) w' ∧ w.grownBy w' (some b) := by
  have j1 : ¬ (m : Int) ≤ 1 := by omega
  have j2 : ¬ (m : Int) ≤ 256 := by omega
  have H := hide h
  clear h
  go_enter Try.func46, Try.ntmps46
  go_wp2_with fail
  refine (dByte B b t _ (unhide H) (by omega)).mono ?_
  rintro e w1 ⟨⟨r1, hr1, rfl⟩, hS, hg⟩
  have HS := hide hS
  have HG := hide hg
  clear hS hg H
  go_wp2_with fail
  refine (dByte B b (t + 1) _ (unhide HS) (by omega)).mono ?_
  rintro e w2 ⟨⟨r2, hr2, rfl⟩, hS, hg⟩
  have HS2 := hide hS
  have HG2 := hide (grown_trans (unhide HG) hg)
  clear hS hg HS HG
  go_wp2_with fail
  refine (dByte B b (t + 1 + 1) _ (unhide HS2) (by omega)).mono ?_
  rintro e w3 ⟨⟨r3, hr3, rfl⟩, hS, hg⟩
  have HS3 := hide hS
  have HG3 := hide (grown_trans (unhide HG2) hg)
  clear hS hg HS2 HG2
  go_wp2
  go_ret
  refine ⟨⟨(r1 * 65536 + r2 * 256 + r3) % m, Nat.mod_lt _ (by omega), ?_⟩, unhide HS3, unhide HG3⟩
  exact rfl
theorem sBitsE (v m : Int) (n : Nat) (w : World) (hm : m = n) (h1 : 1 ≤ n) (h2 : n ≤ 64) :
    Calls Try.prog 20 #[.int .i64 v, .int .i64 m] w fun e w' => (∃ x : Nat, e = .returned (.string (S (Vb.nTxt n x)))) ∧ w = w' := by
  subst hm
  exact (sBitsOf v n w h1 h2).mono fun e w' ⟨h, h'⟩ => ⟨⟨_, h⟩, h'.symm⟩
set_option maxRecDepth 100000 in
set_option maxHeartbeats 400000 in
theorem dKnown (a : Option Addr) (n cap : Nat) (w : World) (hn : n ≤ 1048576) (hB : BL w.heap.size a n w) :
    Calls Try.prog 16 #[.slice a n cap] w fun e w' => (∃ k : Nat, 1 ≤ k ∧ k ≤ 30 ∧ ∃ x y : Nat, e = .returned (.tuple #[.string (S (Vb.nTxt k x)), .string (S (Vb.nTxt k y))])) ∧ Below w.heap.size w w' := by
  have H := hide hB
  clear hB
  go_enter Try.func16, Try.ntmps16
  go_wp2_with fail
  refine (lSource a n cap _ hn (unhide H)).mono ?_
  rintro e w0 ⟨rfl, hS, hg⟩
  have HS := hide hS
  have HG := hide hg
  clear hS hg H
  go_wp2_with fail
  refine (dNext 30 w.heap.size w.heap.size 0 _ (unhide HS) (by omega) (by omega) (by omega)).mono ?_
  rintro e w1 ⟨⟨k, hk, rfl⟩, hS, hg⟩
  have HS1 := hide hS
  have HB1 := hide (Below.trans (below_of_none (unhide HG)) (below_of_grown hg (Nat.le_refl _) (unhide HG).size))
  clear hS hg HS HG
  go_wp2_with fail
  refine (dNextB 16777216 w.heap.size w.heap.size 1 _ (unhide HS1) (by omega) (by omega) (by omega)).mono ?_
  rintro e w2 ⟨⟨x, hx, rfl⟩, hS, hg⟩
  have HS2 := hide hS
  have HB2 := hide (Below.trans (unhide HB1) (below_of_grown hg (Nat.le_refl _) (unhide HB1).size))
  clear hS hg HS1 HB1
  go_wp2_with fail
  refine (dNextB 16777216 w.heap.size w.heap.size 4 _ (unhide HS2) (by omega) (by omega) (by omega)).mono ?_
  rintro e w3 ⟨⟨y, hy, rfl⟩, hS, hg⟩
  have HB3 := hide (Below.trans (unhide HB2) (below_of_grown hg (Nat.le_refl _) (unhide HB2).size))
  clear hS hg HS2 HB2
  go_wp2_with fail
  refine (sBitsE _ _ (1 + k) _ (by omega) (by omega) (by omega)).mono ?_
  rintro e w4 ⟨⟨X, rfl⟩, rfl⟩
  generalize hX : S (Vb.nTxt (1 + k) X) = T
  have HX := hide hX
  clear hX
  go_wp2_with fail
  refine (sBitsE _ _ (1 + k) _ (by omega) (by omega) (by omega)).mono ?_
  rintro e w5 ⟨⟨Y, rfl⟩, rfl⟩
  generalize hY : S (Vb.nTxt (1 + k) Y) = T'
  have HY := hide hY
  clear hY
  go_wp2
  refine bodyPost_ret (v := .tuple #[.string T, .string T']) (by simp [results, Try.results16, go_sem]) rfl ?_
  have hX := unhide HX
  have hY := unhide HY
  subst hX hY
  exact ⟨⟨1 + k, by omega, by omega, X, Y, rfl⟩, unhide HB3⟩
end Go.Proofs.Ytmbllgblbdfobaa
namespace Go.Proofs.Ytmbllgblbdfobaa
open Go.RowKit
set_option maxRecDepth 100000 in
set_option maxHeartbeats 800000 in
theorem lAt (B : Nat) (a : Option Addr) (n cap i m : Nat) (w : World) (hB : BL B a n w) (hi : i ≤ 100) (hn : n ≤ 1048576) (hm : 1 ≤ m) (hm2 : m ≤ 100) :
    Calls Try.prog 34 #[.slice a n cap, .int .i64 i, .int .i64 m] w fun e w' => (∃ r : Nat, r < m ∧ e = .returned (.int .i64 r)) ∧ ∃ q, w' = w.drewN q := by
  by_cases h1 : m ≤ 1
  · have j1 : (m : Int) ≤ 1 := by omega
    go_enter Try.func34, Try.ntmps34
    go_wp2
    go_ret
    exact ⟨⟨0, by omega, rfl⟩, 0, rfl⟩
  have j1 : ¬ (m : Int) ≤ 1 := by omega
  by_cases h0 : n = 0
  · subst h0
    go_enter Try.func34, Try.ntmps34
    go_wp2
    go_ret
    refine ⟨⟨i * 7 % m, Nat.mod_lt _ (by omega), ?_⟩, 0, rfl⟩
    exact rfl
  obtain hB | ⟨cb, off, rfl, hcb, hc⟩ := hB
  · exact absurd hB h0
  have k1 := Nat.mod_lt i (show 0 < n by omega)
  have k2 := Nat.mod_lt (i + 1) (show 0 < n by omega)
  obtain ⟨x, hx⟩ := hc (i % n) k1
  obtain ⟨y, hy⟩ := hc ((i + 1) % n) k2
  have hx2 : x.toNat < 256 := x.toNat_lt
  have hy2 : y.toNat < 256 := y.toNat_lt
  have j0 : ((n : Int) == 0) = false := by rw [beq_eq_false_iff_ne]; omega
  have e1 : (i : Int) % (n : Int) = ((i % n : Nat) : Int) := rfl
  have e2 : ((i : Int) + 1) % (n : Int) = (((i + 1) % n : Nat) : Int) := rfl
  have e3 : (i : Int) / (n : Int) = ((i / n : Nat) : Int) := rfl
  have d3 : i / n ≤ 100 := Nat.le_trans (Nat.div_le_self _ _) hi
  have d1 : ((i % n : Nat) : Int) < n := by omega
  have d2 : (((i + 1) % n : Nat) : Int) < n := by omega
  clear hc
  generalize i % n = u at *
  generalize (i + 1) % n = v at *
  generalize i / n = d at *
  go_enter Try.func34, Try.ntmps34
  go_wp2
  go_quiet (fail)
  go_wp2
  go_ret
  refine ⟨⟨(x.toNat * 31 + y.toNat + d) % m, Nat.mod_lt _ (by omega), ?_⟩, _, rfl⟩
  exact rfl
end Go.Proofs.Ytmbllgblbdfobaa
