/- What the drawing functions vector, oddVector and l01Source answer. -/
import Derived.Test.YtmbllgblbdfobaaSrc
import Derived.Test.YtmbllgblbdfobaaS7
namespace Go.Proofs.Ytmbllgblbdfobaa
open Go.RowKit
theorem grown_alloc {w W : World} {r : Option Nat} (h : w.grownBy W r) (o : Obj) : w.grownBy (W.alloc o) r :=
  ⟨h.os, h.tape, h.output, by have := h.size; simp; omega, fun k hk hne => ((World.grownBy_alloc W o none).block k (Nat.lt_of_lt_of_le hk h.size) (by simp)).trans (h.block k hk hne)⟩
/-- What was appended to a row of one's own leaves all else. -/
theorem grown_own {w W w1 : World} {b : Nat} {e : TypeId} {sz n : Nat} {v : Value} {xs : List Value} {o : Obj} (h : w.grownBy W (some b)) (ho : W.ownsRow w.heap.size e sz v n xs) (hg : (W.alloc o).grownBy w1 v.ownBlock) : w.grownBy w1 (some b) := by
  have h1 := grown_alloc h o
  refine ⟨hg.os.trans h1.os, hg.tape.trans h1.tape, hg.output.trans h1.output, Nat.le_trans h1.size hg.size, fun k hk hne => ?_⟩
  refine (hg.block k (Nat.lt_of_lt_of_le hk h1.size) (fun e => ?_)).trans (h1.block k hk hne)
  have := (ho.lt k e.symm).1
  omega
theorem Src_own {B b t Z : Nat} {W w1 : World} {e : TypeId} {sz n : Nat} {v : Value} {xs : List Value} {o : Obj} (h : Src B b t W) (ho : W.ownsRow Z e sz v n xs) (hZ : b < Z) (hg : (W.alloc o).grownBy w1 v.ownBlock) : Src B b t w1 := by
  have hBb : B ≤ b := by obtain ⟨_, _, _, _, _, _, h1, _⟩ := h; exact h1
  have h1 : Src B b t (W.alloc o) := Src_kept (r := none) h (World.grownBy_alloc W o none) (by simp) (by simp)
  exact Src_kept h1 hg (fun k e => by have := (ho.lt k e).1; omega) (fun e => by have := (ho.lt b e).1; omega)
theorem Src_lt {B b t : Nat} {W : World} (h : Src B b t W) : B ≤ b ∧ b < W.heap.size := by
  obtain ⟨_, _, _, _, _, _, h1, _, _, _, _, h6⟩ := h
  exact ⟨h1, lt_of_block h6⟩
theorem OB_ne {w W : World} {b : Nat} {v : Value} {l : List UInt8} (h : OB w.heap.size v l W) (hb : b < w.heap.size) : v.ownBlock = none ∨ v.ownBlock ≠ some b := by
  refine .inr fun e => ?_
  have := (World.ownsRow.lt h b e).1
  omega
set_option maxRecDepth 100000 in
set_option maxHeartbeats 800000 in
theorem dVector (m B b t : Nat) (w : World) (h : Src B b t w) (ht : t < 1099511627000) (hm : m ≤ 128) :
    Calls Try.prog 60 #[.pointer (some ⟨b, 0, none⟩), .int .i64 m] w fun e w' => (∃ l : List UInt8, l.length = m ∧ l.all Vb.isV = true ∧ e = .returned (.string (S l))) ∧ Src B b (t + 1 + m) w' ∧ w.grownBy w' (some b) := by
  obtain ⟨i0, hi, hz0, hz1, hz2⟩ := info_parts info5
  have hlt := (Src_lt h).2
  have H := hide h
  clear h
  go_enter Try.func60, Try.ntmps60
  go_wp2_with fail
  have hS0 : Src B b t (w.alloc (.cells #[] 5)) := Src_kept (r := none) (unhide H) (World.grownBy_alloc w _ none) (by simp) (by simp)
  refine (dNext 6 B b t _ hS0 (by omega) (by omega) (by omega)).mono ?_
  rintro e w1 ⟨⟨r, hr, rfl⟩, hS, hg⟩
  have HS := hide hS
  have HG := hide hg
  have hO : OB w.heap.size (.slice (some ⟨w.heap.size, 0, none⟩) 0 0) [] w1 := (OB_start (Nat.le_refl _)).kept hg (.inr (by simp [Value.ownBlock]; omega))
  have HO := hide hO
  clear hS hg H hS0 hO
  go_wp2
  go_loopw [5, 7] (fun v i W => ∃ k : Nat, k ≤ m ∧ i = .int .i64 k ∧ ∃ l : List UInt8, l.length = k ∧ l.all Vb.isV = true ∧ OB w.heap.size v l W ∧ Src B b (t + 1 + k) W ∧ w.grownBy W (some b)) (fun _ i _ => m - (intOf i).toNat)
  case atStart => exact ⟨0, Nat.zero_le _, rfl, [], rfl, rfl, unhide HO, unhide HS, grown_trans (World.grownBy_alloc w _ _) (unhide HG)⟩
  case round =>
    clear HS HG HO
    obtain ⟨k, hk, rfl, l, hl, hv, hO, hS, hg⟩ := hrel
    have HV := hide hv
    have HS := hide hS
    have HG := hide hg
    have HO := hide hO
    clear hv hS hg hO
    by_cases hkm : k < m
    · by_cases r0 : r = 0
      · subst r0
        go_wp2_with fail
        refine (dNext 4 B b (t + 1 + k) _ (unhide HS) (by omega) (by omega) (by omega)).mono ?_
        rintro e w2 ⟨⟨q, hq, rfl⟩, hS2, hg2⟩
        have j1 : (0 : Int) ≤ q := by omega
        have j2 : (q : Int) < 4 := by omega
        have hok : Vb.isV ((⟨#[48, 49, 120, 122]⟩ : ByteArray)[q]'hq) = true := (by decide : ∀ q, (h : q < 4) → Vb.isV ((⟨#[48, 49, 120, 122]⟩ : ByteArray)[q]'h) = true) q hq
        have HK := hide hok
        have hO2 := (unhide HO).kept hg2 (OB_ne (unhide HO) hlt)
        have HO2 := hide hO2
        have HS2 := hide hS2
        have HG2 := hide (grown_trans (unhide HG) hg2)
        have hsz2 := (grown_trans (unhide HG) hg2).size
        clear hok hS2 hg2 hO2 HO HS HG
        go_wp2_with (first | (at_builtin; refine wpList_append_own _ rfl _ _ 22 rfl w.heap.size 5 i0 (.int .u8 0) 1 1 Try.underlying22 hi hz0 hz1 hz2 rfl (by decide) _ _ _ rfl (World.ownsRow.alloc (unhide HO2) _) ⟨_, 0, none⟩ 1 1 [bv ((⟨#[48, 49, 120, 122]⟩ : ByteArray)[q]'hq)] rfl rfl (cell_one_new _ _ _) (by intro u hu; simp at hu; subst hu; rfl) (by rw [hl]; unfold maxLen; omega) (by rw [hl]; omega) (by simp; omega) ?_; intro v' w3 hown' hgrow _))
        refine ⟨by (repeat apply Exists.intro); exact ⟨⟨k + 1, by omega, by go_num, l ++ [(⟨#[48, 49, 120, 122]⟩ : ByteArray)[q]'hq], by simp [hl], by rw [List.all_append, unhide HV]; simp [unhide HK], OB_step hown', Src_mono (Src_own (unhide HS2) (unhide HO2) hlt hgrow) (by omega), grown_own (unhide HG2) (unhide HO2) hgrow⟩, rfl⟩, by simp [intOf]; omega⟩
      by_cases r1 : r = 1
      · subst r1
        go_wp2_with fail
        refine (dNext 6 B b (t + 1 + k) _ (unhide HS) (by omega) (by omega) (by omega)).mono ?_
        rintro e w2 ⟨⟨q, hq, rfl⟩, hS2, hg2⟩
        have j1 : (0 : Int) ≤ q := by omega
        have j2 : (q : Int) < 6 := by omega
        have hok : Vb.isV ((⟨#[48, 48, 48, 48, 48, 49]⟩ : ByteArray)[q]'hq) = true := (by decide : ∀ q, (h : q < 6) → Vb.isV ((⟨#[48, 48, 48, 48, 48, 49]⟩ : ByteArray)[q]'h) = true) q hq
        have HK := hide hok
        have hO2 := (unhide HO).kept hg2 (OB_ne (unhide HO) hlt)
        have HO2 := hide hO2
        have HS2 := hide hS2
        have HG2 := hide (grown_trans (unhide HG) hg2)
        have hsz2 := (grown_trans (unhide HG) hg2).size
        clear hok hS2 hg2 hO2 HO HS HG
        go_wp2_with (first | (at_builtin; refine wpList_append_own _ rfl _ _ 22 rfl w.heap.size 5 i0 (.int .u8 0) 1 1 Try.underlying22 hi hz0 hz1 hz2 rfl (by decide) _ _ _ rfl (World.ownsRow.alloc (unhide HO2) _) ⟨_, 0, none⟩ 1 1 [bv ((⟨#[48, 48, 48, 48, 48, 49]⟩ : ByteArray)[q]'hq)] rfl rfl (cell_one_new _ _ _) (by intro u hu; simp at hu; subst hu; rfl) (by rw [hl]; unfold maxLen; omega) (by rw [hl]; omega) (by simp; omega) ?_; intro v' w3 hown' hgrow _))
        refine ⟨by (repeat apply Exists.intro); exact ⟨⟨k + 1, by omega, by go_num, l ++ [(⟨#[48, 48, 48, 48, 48, 49]⟩ : ByteArray)[q]'hq], by simp [hl], by rw [List.all_append, unhide HV]; simp [unhide HK], OB_step hown', Src_mono (Src_own (unhide HS2) (unhide HO2) hlt hgrow) (by omega), grown_own (unhide HG2) (unhide HO2) hgrow⟩, rfl⟩, by simp [intOf]; omega⟩
      by_cases r2 : r = 2
      · subst r2
        go_wp2_with fail
        refine (dNext 4 B b (t + 1 + k) _ (unhide HS) (by omega) (by omega) (by omega)).mono ?_
        rintro e w2 ⟨⟨q, hq, rfl⟩, hS2, hg2⟩
        have j1 : (0 : Int) ≤ q := by omega
        have j2 : (q : Int) < 4 := by omega
        have hok : Vb.isV ((⟨#[49, 49, 49, 48]⟩ : ByteArray)[q]'hq) = true := (by decide : ∀ q, (h : q < 4) → Vb.isV ((⟨#[49, 49, 49, 48]⟩ : ByteArray)[q]'h) = true) q hq
        have HK := hide hok
        have hO2 := (unhide HO).kept hg2 (OB_ne (unhide HO) hlt)
        have HO2 := hide hO2
        have HS2 := hide hS2
        have HG2 := hide (grown_trans (unhide HG) hg2)
        have hsz2 := (grown_trans (unhide HG) hg2).size
        clear hok hS2 hg2 hO2 HO HS HG
        go_wp2_with (first | (at_builtin; refine wpList_append_own _ rfl _ _ 22 rfl w.heap.size 5 i0 (.int .u8 0) 1 1 Try.underlying22 hi hz0 hz1 hz2 rfl (by decide) _ _ _ rfl (World.ownsRow.alloc (unhide HO2) _) ⟨_, 0, none⟩ 1 1 [bv ((⟨#[49, 49, 49, 48]⟩ : ByteArray)[q]'hq)] rfl rfl (cell_one_new _ _ _) (by intro u hu; simp at hu; subst hu; rfl) (by rw [hl]; unfold maxLen; omega) (by rw [hl]; omega) (by simp; omega) ?_; intro v' w3 hown' hgrow _))
        refine ⟨by (repeat apply Exists.intro); exact ⟨⟨k + 1, by omega, by go_num, l ++ [(⟨#[49, 49, 49, 48]⟩ : ByteArray)[q]'hq], by simp [hl], by rw [List.all_append, unhide HV]; simp [unhide HK], OB_step hown', Src_mono (Src_own (unhide HS2) (unhide HO2) hlt hgrow) (by omega), grown_own (unhide HG2) (unhide HO2) hgrow⟩, rfl⟩, by simp [intOf]; omega⟩
      have j3 : ((r : Int) == 0) = false := by rw [beq_eq_false_iff_ne]; omega
      have j4 : ((r : Int) == 1) = false := by rw [beq_eq_false_iff_ne]; omega
      have j5 : ((r : Int) == 2) = false := by rw [beq_eq_false_iff_ne]; omega
      go_wp2_with fail
      refine (dNext 2 B b (t + 1 + k) _ (unhide HS) (by omega) (by omega) (by omega)).mono ?_
      rintro e w2 ⟨⟨q, hq, rfl⟩, hS2, hg2⟩
      have j1 : (0 : Int) ≤ q := by omega
      have j2 : (q : Int) < 2 := by omega
      have hok : Vb.isV ((⟨#[48, 49]⟩ : ByteArray)[q]'hq) = true := (by decide : ∀ q, (h : q < 2) → Vb.isV ((⟨#[48, 49]⟩ : ByteArray)[q]'h) = true) q hq
      have HK := hide hok
      have hO2 := (unhide HO).kept hg2 (OB_ne (unhide HO) hlt)
      have HO2 := hide hO2
      have HS2 := hide hS2
      have HG2 := hide (grown_trans (unhide HG) hg2)
      have hsz2 := (grown_trans (unhide HG) hg2).size
      clear hok hS2 hg2 hO2 HO HS HG
      go_wp2_with (first | (at_builtin; refine wpList_append_own _ rfl _ _ 22 rfl w.heap.size 5 i0 (.int .u8 0) 1 1 Try.underlying22 hi hz0 hz1 hz2 rfl (by decide) _ _ _ rfl (World.ownsRow.alloc (unhide HO2) _) ⟨_, 0, none⟩ 1 1 [bv ((⟨#[48, 49]⟩ : ByteArray)[q]'hq)] rfl rfl (cell_one_new _ _ _) (by intro u hu; simp at hu; subst hu; rfl) (by rw [hl]; unfold maxLen; omega) (by rw [hl]; omega) (by simp; omega) ?_; intro v' w3 hown' hgrow _))
      exact ⟨⟨k + 1, by omega, by go_num, l ++ [(⟨#[48, 49]⟩ : ByteArray)[q]'hq], by simp [hl], by rw [List.all_append, unhide HV]; simp [unhide HK], OB_step hown', Src_mono (Src_own (unhide HS2) (unhide HO2) hlt hgrow) (by omega), grown_own (unhide HG2) (unhide HO2) hgrow⟩, by simp [intOf]; omega⟩
    · have hcv := OB_string (unhide HO)
      have hkm' : k = m := by omega
      go_wp2
      go_ret
      subst hkm'
      exact ⟨⟨l, hl, unhide HV, rfl⟩, unhide HS, unhide HG⟩
end Go.Proofs.Ytmbllgblbdfobaa
