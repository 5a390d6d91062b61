/- What oddVector, l01Source and DrawResolve answer. -/
import Derived.Test.YtmbllgblbdfobaaSrc2
namespace Go.Proofs.Ytmbllgblbdfobaa
open Go.RowKit
theorem Src_below {B b t : Nat} {W W' : World} (h : Src B b t W) (hb : Below W.heap.size W W') : Src B b t W' := Src_kept (r := none) h (grown_of_below hb) (by simp) (by simp)
theorem Src_alloc {B b t : Nat} {W : World} (h : Src B b t W) (o : Obj) : Src B b t (W.alloc o) := Src_kept (r := none) h (World.grownBy_alloc W o none) (by simp) (by simp)
theorem Src_draw {B b t : Nat} {W W' : World} (h : Src B b t W) (hW : ∃ n, W' = W.drewN n) : Src B b t W' := by obtain ⟨n, rfl⟩ := hW; exact Src_drew h n
theorem below_of_none {w w1 : World} (h : w.grownBy w1 none) : Below w.heap.size w w1 := ⟨h.os, h.tape, h.output, h.size, fun k hk => h.block k hk (by simp)⟩
set_option maxRecDepth 100000 in
set_option maxHeartbeats 800000 in
theorem dOdd (B b t : Nat) (w : World) (h : Src B b t w) (ht : t < 1099511626000) :
    Calls Try.prog 75 #[.pointer (some ⟨b, 0, none⟩)] w fun e w' => (∃ l : List UInt8, l.length ≤ 65 ∧ e = .returned (.string (S l))) ∧ Src B b (t + 70) w' ∧ w.grownBy w' (some b) := by
  have hlt := (Src_lt h).2
  have H := hide h
  clear h
  go_enter Try.func75, Try.ntmps75
  go_wp2_with fail
  refine (dWidth B b t _ (unhide H) (by omega)).mono ?_
  rintro e w1 ⟨⟨m, hm1, hm2, rfl⟩, hS1, hg1⟩
  have HS1 := hide hS1
  have HG1 := hide hg1
  clear hS1 hg1 H
  go_wp2_with fail
  refine (dVector m B b (t + 2) _ (unhide HS1) (by omega) (by omega)).mono ?_
  rintro e w2 ⟨⟨l, hl, hv, rfl⟩, hS2, hg2⟩
  have HS2 := hide hS2
  have HG2 := hide (grown_trans (unhide HG1) hg2)
  clear hS2 hg2 HS1 HG1 hv
  go_wp2_with fail
  refine (dNext 20 B b (t + 2 + 1 + m) _ (unhide HS2) (by omega) (by omega) (by omega)).mono ?_
  rintro e w3 ⟨⟨r, hr, rfl⟩, hS3, hg3⟩
  have HS3 := hide hS3
  have HG3 := hide (grown_trans (unhide HG2) hg3)
  clear hS3 hg3 HS2 HG2
  by_cases r0 : r = 0
  · subst r0
    have hlt3 : b < w3.heap.size := (Src_lt (unhide HS3)).2
    go_wp2_with fail
    refine (dNext 5 B b (t + 2 + 1 + m + 1) _ (Src_alloc (unhide HS3) _) (by omega) (by omega) (by omega)).mono ?_
    rintro e w4 ⟨⟨q, hq, rfl⟩, hS4, hg4⟩
    have hc : ∃ l' : List UInt8, l'.length ≤ 3 ∧ w4.cell? ⟨w3.heap.size, q, none⟩ = some (.string (S l')) := by
      have hk : ∀ (u : Value), (w3.alloc (.cells #[.string ⟨#[]⟩, .string ⟨#[50]⟩, .string ⟨#[48, 88]⟩, .string ⟨#[120, 49, 32]⟩, .string ⟨#[122, 122, 63]⟩] 9)).cell? ⟨w3.heap.size, q, none⟩ = some u → w4.cell? ⟨w3.heap.size, q, none⟩ = some u := fun u hu => hg4.cell hu (by simp; omega)
      match q, hq with
      | 0, _ => exact ⟨[], by decide, hk _ (cells_at (heap_alloc_new _ _) rfl)⟩
      | 1, _ => exact ⟨[50], by decide, hk _ (cells_at (heap_alloc_new _ _) rfl)⟩
      | 2, _ => exact ⟨[48, 88], by decide, hk _ (cells_at (heap_alloc_new _ _) rfl)⟩
      | 3, _ => exact ⟨[120, 49, 32], by decide, hk _ (cells_at (heap_alloc_new _ _) rfl)⟩
      | 4, _ => exact ⟨[122, 122, 63], by decide, hk _ (cells_at (heap_alloc_new _ _) rfl)⟩
    obtain ⟨l', hl', hcell⟩ := hc
    have HS4 := hide hS4
    have HG4 := hide (grown_trans (grown_alloc (unhide HG3) _) hg4)
    have j1 : (0 : Int) ≤ q := by omega
    have j2 : (q : Int) < 5 := by omega
    clear hS4 hg4 HS3 HG3
    go_wp2
    go_ret
    exact ⟨⟨l', by omega, rfl⟩, Src_mono (unhide HS4) (by omega), unhide HG4⟩
  by_cases r1 : r = 1
  · subst r1
    go_wp2_with fail
    refine (dNext 2 B b (t + 2 + 1 + m + 1) _ (unhide HS3) (by omega) (by omega) (by omega)).mono ?_
    rintro e w4 ⟨⟨q, hq, rfl⟩, hS4, hg4⟩
    have HS4 := hide hS4
    have HG4 := hide (grown_trans (unhide HG3) hg4)
    clear hS4 hg4 HS3 HG3
    go_wp2_with fail
    rw [show ((64 : Int) + (q : Int)) = ((64 + q : Nat) : Int) by omega]
    refine (sFill 49 (64 + q) _ (by omega)).mono ?_
    rintro e w5 ⟨rfl, hb5⟩
    have HS5 := hide (Src_below (unhide HS4) hb5)
    have HG5 := hide (grown_trans (unhide HG4) (grown_of_below hb5))
    clear hb5 HS4 HG4
    go_wp2
    go_ret
    exact ⟨⟨List.replicate (64 + q) 49, by simp; omega, rfl⟩, Src_mono (unhide HS5) (by omega), unhide HG5⟩
  have j0 : ((r : Int) == 0) = false := by rw [beq_eq_false_iff_ne]; omega
  have j1 : ((r : Int) == 1) = false := by rw [beq_eq_false_iff_ne]; omega
  go_wp2
  go_ret
  exact ⟨⟨l, by omega, rfl⟩, Src_mono (unhide HS3) (by omega), unhide HG3⟩
theorem lSource (a : Option Addr) (n cap : Nat) (w : World) (hn : n ≤ 1048576) (hB : BL w.heap.size a n w) :
    Calls Try.prog 45 #[.slice a n cap] w fun e w' => e = .returned (.pointer (some ⟨w.heap.size, 0, none⟩)) ∧ Src w.heap.size w.heap.size 0 w' ∧ w.grownBy w' none := by
  have HB := hide hB
  clear hB
  go_enter Try.func45, Try.ntmps45
  go_wp2
  go_ret
  refine ⟨rfl, ⟨a, n, cap, 0, n % 1000, 94, Nat.le_refl _, hn, BL_kept (unhide HB) (World.grownBy_alloc w _ none) (by simp), Nat.le_refl _, by omega, heap_alloc_new w _⟩, World.grownBy_alloc w _ none⟩
/-- A slice of strings of one's own. -/
def OS (B : Nat) (v : Value) (ss : List ByteArray) (W : World) : Prop := W.ownsRow B 9 1 v ss.length (ss.map Value.string)
theorem OS_start {w : World} {B : Nat} (h : B ≤ w.heap.size) : OS B (.slice (some ⟨w.heap.size, 0, none⟩) 0 0) [] (w.alloc (.cells #[] 9)) := World.ownsRow_made w #[] 0 h (by decide) rfl
theorem OS_step {B : Nat} {v : Value} {l : List ByteArray} {c : ByteArray} {W : World} (h : W.ownsRow B 9 1 v (l.length + 1) (l.map Value.string ++ [Value.string c])) : OS B v (l ++ [c]) W := by
  unfold OS; rw [List.length_append, List.map_append]; exact h
theorem OS_ne {B b : Nat} {W : World} {v : Value} {l : List ByteArray} (h : OS B v l W) (hb : b < B) : v.ownBlock = none ∨ v.ownBlock ≠ some b := by
  refine .inr fun e => ?_
  have := (World.ownsRow.lt h b e).1
  omega
theorem OS_SL {B : Nat} {v : Value} {ss : List ByteArray} {W : World} (h : OS B v ss W) (h1 : 1 ≤ ss.length) : ∃ g cap, v = .slice (some ⟨g, 0, none⟩) ss.length cap ∧ B ≤ g ∧ SL (some ⟨g, 0, none⟩) ss.length ss W ∧ ss.length ≤ cap ∧ cap ≤ maxLen := by
  have hc := fun g hg => World.ownsRow.cells h (g := g) hg
  rcases h.2 with ⟨_, hn⟩ | ⟨g, cap, cur, rfl, hb, hg, hl, hm, _⟩
  · omega
  · refine ⟨g, cap, rfl, hb, ⟨rfl, .inr ⟨g, 0, rfl, fun i hi => ?_⟩⟩, hl, hm⟩
    have := hc g rfl i (.string ss[i]) (by rw [List.getElem?_map, List.getElem?_eq_getElem hi]; rfl)
    rw [Addr.add_lit] at this
    exact this
/-- Blocks at or behind B alone have turned, and b's. -/
theorem below_own {B Z : Nat} {w W w1 : World} {e : TypeId} {sz n : Nat} {v : Value} {xs : List Value} {o : Obj} (hb : Below B w W) (hBW : B ≤ W.heap.size) (ho : W.ownsRow Z e sz v n xs) (hZ : B ≤ Z) (hg : (W.alloc o).grownBy w1 v.ownBlock) : Below B w w1 :=
  (hb.alloc hBW o).grown hg (by simp; omega) (fun k hk => by have := (ho.lt k hk).1; omega)
set_option maxRecDepth 100000 in
set_option maxHeartbeats 1000000 in
theorem dResolve (a : Option Addr) (n cap : Nat) (w : World) (hn : n ≤ 1048576) (hB : BL w.heap.size a n w) :
    Calls Try.prog 31 #[.slice a n cap] w fun e w' => (∃ g cp, ∃ ss : List ByteArray, e = .returned (.slice (some ⟨g, 0, none⟩) ss.length cp) ∧ w.heap.size ≤ g ∧ SL (some ⟨g, 0, none⟩) ss.length ss w' ∧ 1 ≤ ss.length ∧ ss.length ≤ 6 ∧ ss.length ≤ cp ∧ cp ≤ maxLen ∧ ∀ s ∈ ss, s.size ≤ 65) ∧ Below w.heap.size w w' := by
  obtain ⟨i5, hi, hz0, hz1, hz2⟩ := info_parts info5
  obtain ⟨i9, hi9, hy0, hy1, hy2⟩ := info_parts str_info9
  have HB := hide hB
  clear hB
  go_enter Try.func31, Try.ntmps31
  go_wp2_with fail
  refine (lSource a n cap _ hn (unhide HB)).mono ?_
  rintro e w1 ⟨rfl, hS1, hg1⟩
  generalize hb : w.heap.size = b at *
  have HS1 := hide hS1
  have HB1 := hide (below_of_none hg1 : Below w.heap.size w w1)
  clear hS1 hg1 HB
  go_wp2_with fail
  refine (dWidth b b 0 _ (unhide HS1) (by omega)).mono ?_
  rintro e w2 ⟨⟨m, hm1, hm2, rfl⟩, hS2, hg2⟩
  have HS2 := hide hS2
  have HB2 := hide (Below.trans (unhide HB1) (below_of_grown (B := w.heap.size) hg2 (by omega) (unhide HB1).size))
  clear hS2 hg2 HS1 HB1
  go_wp2_with fail
  refine (dNext 5 b b 2 _ (Src_alloc (unhide HS2) _) (by omega) (by omega) (by omega)).mono ?_
  rintro e w3 ⟨⟨r, hr, rfl⟩, hS3, hg3⟩
  have hlt2 : b < w2.heap.size := (Src_lt (unhide HS2)).2
  have hO : OS (b + 1) (.slice (some ⟨w2.heap.size, 0, none⟩) 0 0) [] w3 := (OS_start (by omega)).kept hg3 (.inr (by simp [Value.ownBlock]; omega))
  have HO := hide hO
  have HS3 := hide hS3
  have HB3 := hide (Below.trans ((unhide HB2).alloc (unhide HB2).size _) (below_of_grown (B := w.heap.size) hg3 (by omega) (by have := (unhide HB2).size; simp; omega)))
  clear hS3 hg3 HS2 HB2 hO hlt2
  go_wp2
  go_loopw [5, 6] (fun v i W => ∃ j : Nat, i = .int .i64 ((j : Int) - 1) ∧ ∃ ss : List ByteArray, ss.length + j = r + 1 ∧ (∀ s ∈ ss, s.size ≤ 65) ∧ OS (b + 1) v ss W ∧ Src b b (3 + 64 * ss.length) W ∧ Below b w W) (fun _ i _ => (intOf i + 1).toNat)
  case atStart => exact ⟨r + 1, by go_num, [], by simp, by simp, unhide HO, unhide HS3, by have := unhide HB3; rw [hb] at this; exact this⟩
  case round =>
    clear HO HS3 HB3
    obtain ⟨j, rfl, ss, hj, hsz, hO, hS, hbel⟩ := hrel
    have HZ := hide hsz
    have HO := hide hO
    have HS := hide hS
    have HB := hide hbel
    clear hsz hO hS hbel
    by_cases hj0 : j = 0
    · subst hj0
      have hltr : b < wr.heap.size := (Src_lt (unhide HS)).2
      go_wp2_with fail
      refine (dChance 9 b b _ _ (unhide HS) (by omega) (by omega) (by omega)).mono ?_
      rintro e w4 ⟨⟨c, rfl⟩, hS4, hg4⟩
      have hO4 := (unhide HO).kept hg4 (OS_ne (unhide HO) (by omega))
      have HO4 := hide hO4
      have HS4 := hide hS4
      have HB4 := hide (Below.trans (unhide HB) (below_of_grown (B := b) hg4 (by omega) (by omega)))
      clear hO4 hS4 hg4 HS HO HB
      cases c with
      | false =>
        obtain ⟨g, cp, hu, hbg, hSL, hcp, hcm⟩ := OS_SL (unhide HO4) (by omega)
        subst hu
        have HSL := hide hSL
        clear hSL
        go_wp2
        go_ret
        exact ⟨⟨g, cp, ss, rfl, by omega, unhide HSL, by omega, by omega, hcp, hcm, unhide HZ⟩, by rw [hb]; exact unhide HB4⟩
      | true =>
        go_wp2_with fail
        refine (dOdd b b _ _ (unhide HS4) (by omega)).mono ?_
        rintro e w5 ⟨⟨l, hl, rfl⟩, hS5, hg5⟩
        have hO5 := (unhide HO4).kept hg5 (OS_ne (unhide HO4) (by omega))
        have HO5 := hide hO5
        have hb5 := Below.trans (unhide HB4) (below_of_grown (B := b) hg5 (by omega) (by have := (Src_lt (unhide HS4)).2; omega))
        have HB5 := hide hb5
        have hsz5 := (Src_lt hS5).2
        clear hO5 hS5 hg5 HS4 HO4 HB4 hb5
        go_wp2_with (first | (at_builtin; refine wpList_append_own _ rfl _ _ 33 rfl (b + 1) 9 i9 (.string ByteArray.empty) 1 16 Try.underlying33 hi9 hy0 hy1 hy2 rfl (by decide) _ _ _ rfl (World.ownsRow.alloc (unhide HO5) _) ⟨_, 0, none⟩ 1 1 [.string (S l)] rfl rfl (cell_one_new _ _ _) (by intro u hu; simp at hu; subst hu; rfl) (by unfold maxLen; omega) (by omega) (by simp; omega) ?_; intro v' w6 hown' hgrow _))
        go_ret
        have hO6 := OS_step hown'
        obtain ⟨g, cp, rfl, hbg, hSL, hcp, hcm⟩ := OS_SL hO6 (by simp)
        have hsl : (ss ++ [S l]).length = ss.length + 1 := by simp
        refine ⟨⟨g, cp, ss ++ [S l], rfl, by omega, hSL, by omega, by omega, hcp, hcm, ?_⟩, by rw [hb]; exact below_own (unhide HB5) (by omega) (unhide HO5) (by omega) hgrow⟩
        intro s hs
        rcases List.mem_append.1 hs with hs | hs
        · exact unhide HZ s hs
        · rw [List.mem_singleton] at hs; subst hs; rw [S_size]; omega
    · have j1 : (1 : Int) ≤ (j : Int) := by omega
      go_wp2
      obtain ⟨wz, hwz⟩ : ∃ z, z = wr := ⟨_, rfl⟩
      subst hwz
      have hltr : b < wz.heap.size := (Src_lt (unhide HS)).2
      go_loopw [7, 8] (fun v k W => ∃ q : Nat, q ≤ m ∧ k = .int .i64 q ∧ ∃ l : List UInt8, l.length = q ∧ OB wz.heap.size v l W ∧ Src b b (3 + 64 * ss.length + q) W ∧ wz.grownBy W (some b)) (fun _ k _ => m - (intOf k).toNat)
      case atStart => exact ⟨0, Nat.zero_le _, rfl, [], rfl, OB_start (Nat.le_refl _), Src_alloc (unhide HS) _, World.grownBy_alloc wz _ _⟩
      case round =>
        obtain ⟨k, hk, rfl, l, hl, hO2, hS2, hg2⟩ := hrel
        have HO2 := hide hO2
        have HS2 := hide hS2
        have HG2 := hide hg2
        clear hO2 hS2 hg2
        by_cases hkm : k < m
        · go_wp2_with fail
          refine (dNext 7 b b (3 + 64 * ss.length + k) _ (unhide HS2) (by omega) (by omega) (by omega)).mono ?_
          rintro e w4 ⟨⟨q, hq, rfl⟩, hS4, hg4⟩
          have k1 : (0 : Int) ≤ q := by omega
          have k2 : (q : Int) < 7 := by omega
          have hO4 := (unhide HO2).kept hg4 (OB_ne (unhide HO2) hltr)
          have HO4 := hide hO4
          have HS4 := hide hS4
          have HG4 := hide (grown_trans (unhide HG2) hg4)
          have hsz4 := (grown_trans (unhide HG2) hg4).size
          clear hS4 hg4 hO4 HO2 HS2 HG2
          go_wp2_with (first | (at_builtin; refine wpList_append_own _ rfl _ _ 22 rfl wz.heap.size 5 i5 (.int .u8 0) 1 1 Try.underlying22 hi hz0 hz1 hz2 rfl (by decide) _ _ _ rfl (World.ownsRow.alloc (unhide HO4) _) ⟨_, 0, none⟩ 1 1 [bv ((⟨#[122, 122, 122, 122, 48, 49, 120]⟩ : ByteArray)[q]'hq)] rfl rfl (cell_one_new _ _ _) (by intro u hu; simp at hu; subst hu; rfl) (by rw [hl]; unfold maxLen; omega) (by rw [hl]; omega) (by simp; omega) ?_; intro v' w5 hown' hgrow _))
          exact ⟨⟨k + 1, by omega, by go_num, l ++ [(⟨#[122, 122, 122, 122, 48, 49, 120]⟩ : ByteArray)[q]'hq], by simp [hl], OB_step hown', Src_mono (Src_own (unhide HS4) (unhide HO4) hltr hgrow) (by omega), grown_own (unhide HG4) (unhide HO4) hgrow⟩, by simp [intOf]; omega⟩
        · have hcv := OB_string (unhide HO2)
          have hO5 := (unhide HO).kept (unhide HG2) (OS_ne (unhide HO) (by omega))
          have HO5 := hide hO5
          have hszs := (unhide HG2).size
          clear hO5
          go_wp2_with (first | (at_builtin; refine wpList_append_own _ rfl _ _ 33 rfl (b + 1) 9 i9 (.string ByteArray.empty) 1 16 Try.underlying33 hi9 hy0 hy1 hy2 rfl (by decide) _ _ _ rfl (World.ownsRow.alloc (unhide HO5) _) ⟨_, 0, none⟩ 1 1 [.string (S l)] rfl rfl (cell_one_new _ _ _) (by intro u hu; simp at hu; subst hu; rfl) (by unfold maxLen; omega) (by omega) (by simp; omega) ?_; intro v' w5 hown' hgrow _))
          have hbw : Below b w wr := Below.trans (unhide HB) (below_of_grown (unhide HG2) (Nat.le_refl _) (by omega))
          refine ⟨⟨j - 1, by congr 1; omega, ss ++ [S l], by simp; omega, ?_, OS_step hown', Src_mono (Src_own (unhide HS2) (unhide HO5) (by omega) hgrow) (by simp; omega), below_own hbw (by omega) (unhide HO5) (by omega) hgrow⟩, by simp [intOf]; omega⟩
          intro s hs
          rcases List.mem_append.1 hs with hs | hs
          · exact unhide HZ s hs
          · rw [List.mem_singleton] at hs; subst hs; rw [S_size]; omega
end Go.Proofs.Ytmbllgblbdfobaa
