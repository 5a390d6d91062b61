/- What VectorsOf draws: two texts of one width and a short one; what fill and told answer. -/
/- What the law's fill answers: a text whose unknown letters became known ones. -/
/- What the law's told answers of a text and one that tells its known letters. -/
/- What the program's Unary answers: as the specification's. -/
/- The law FnExactUnary's walk: the program's Unary answers as the specification's. -/
import Derived.Test.YtmbllgblbdfobaaG25Src
import Derived.Laws.IdiomStrings
import Derived.Test.YtmbllgblbdfobaaG8U4
import Derived.Test.YtmbllgblbdfobaaG19U5
namespace Go.Proofs.Ytmbllgblbdfobaa
open Go.RowKit
set_option maxRecDepth 100000 in
set_option maxHeartbeats 400000 in
theorem dVectors (a : Option Addr) (n cap : Nat) (w : World) (hn : n ≤ 1048576) (hB : BL w.heap.size a n w) :
    Calls Try.prog 25 #[.slice a n cap] w fun e w' => (∃ x y z : List UInt8, 1 ≤ x.length ∧ x.length ≤ 64 ∧ y.length = x.length ∧ 1 ≤ z.length ∧ z.length ≤ 4 ∧ x.all Vb.isV = true ∧ y.all Vb.isV = true ∧ z.all Vb.isV = true ∧ e = .returned (.tuple #[.string (S x), .string (S y), .string (S z)])) ∧ Below w.heap.size w w' := by
  have H := hide hB
  clear hB
  go_enter Try.func25, Try.ntmps25
  go_wp2_with fail
  refine (lSource a n cap _ hn (unhide H)).mono ?_
  rintro e w0 ⟨rfl, hS, hg⟩
  have HS := hide hS
  have HG := hide hg
  clear hS hg H
  go_wp2_with fail
  refine (dWidth w.heap.size w.heap.size 0 _ (unhide HS) (by omega)).mono ?_
  rintro e w1 ⟨⟨k, hk1, hk2, rfl⟩, hS, hg⟩
  have HS1 := hide hS
  have HB1 := hide (Below.trans (below_of_none (unhide HG)) (below_of_grown hg (Nat.le_refl _) (unhide HG).size))
  clear hS hg HS HG
  go_wp2_with fail
  refine (dVector k w.heap.size w.heap.size (0 + 2) _ (unhide HS1) (by omega) (by omega)).mono ?_
  rintro e w2 ⟨⟨x, hx, hxv, rfl⟩, hS, hg⟩
  have HS2 := hide hS
  have HV1 := hide hxv
  have HB2 := hide (Below.trans (unhide HB1) (below_of_grown hg (Nat.le_refl _) (unhide HB1).size))
  clear hS hg HS1 HB1 hxv
  go_wp2_with fail
  refine (dVector k w.heap.size w.heap.size (0 + 2 + 1 + k) _ (unhide HS2) (by omega) (by omega)).mono ?_
  rintro e w3 ⟨⟨y, hy, hyv, rfl⟩, hS, hg⟩
  have HS3 := hide hS
  have HV2 := hide hyv
  have HB3 := hide (Below.trans (unhide HB2) (below_of_grown hg (Nat.le_refl _) (unhide HB2).size))
  clear hS hg HS2 HB2 hyv
  go_wp2_with fail
  refine (dNext 4 w.heap.size w.heap.size (0 + 2 + 1 + k + 1 + k) _ (unhide HS3) (by omega) (by omega) (by omega)).mono ?_
  rintro e w4 ⟨⟨q, hq, rfl⟩, hS, hg⟩
  have HS4 := hide hS
  have HB4 := hide (Below.trans (unhide HB3) (below_of_grown hg (Nat.le_refl _) (unhide HB3).size))
  clear hS hg HS3 HB3
  go_wp2_with fail
  have e1 : (1 + (q : Int)) = ((1 + q : Nat) : Int) := by omega
  rw [e1]
  clear e1
  refine (dVector (1 + q) w.heap.size w.heap.size (0 + 2 + 1 + k + 1 + k + 1) _ (unhide HS4) (by omega) (by omega)).mono ?_
  rintro e w5 ⟨⟨z, hz, hzv, rfl⟩, hS, hg⟩
  have HV3 := hide hzv
  have HB5 := hide (Below.trans (unhide HB4) (below_of_grown hg (Nat.le_refl _) (unhide HB4).size))
  clear hS hg HS4 HB4 hzv
  go_wp2
  exact bodyPost_ret (v := .tuple #[.string (S x), .string (S y), .string (S z)]) (by simp [results, Try.results25, go_sem]) rfl ⟨⟨x, y, z, by omega, by omega, by omega, by omega, by omega, unhide HV1, unhide HV2, unhide HV3, rfl⟩, unhide HB5⟩
set_option maxRecDepth 100000 in
set_option maxHeartbeats 800000 in
theorem lAtW (B : Nat) (a : Option Addr) (n cap i m : Nat) (w : World) (hB : BL B a n w) (hi : i ≤ 1000) (hn : n ≤ 1048576) (hm : 1 ≤ m) (hm2 : m ≤ 100) :
    Calls Try.prog 34 #[.slice a n cap, .int .i64 i, .int .i64 m] w fun e w' => (∃ r : Nat, r < m ∧ e = .returned (.int .i64 r)) ∧ ∃ q, w' = w.drewN q := by
  by_cases h1 : m ≤ 1
  · have j1 : (m : Int) ≤ 1 := by omega
    go_enter Try.func34, Try.ntmps34
    go_wp2
    go_ret
    exact ⟨⟨0, by omega, rfl⟩, 0, rfl⟩
  have j1 : ¬ (m : Int) ≤ 1 := by omega
  by_cases h0 : n = 0
  · subst h0
    go_enter Try.func34, Try.ntmps34
    go_wp2
    go_ret
    refine ⟨⟨i * 7 % m, Nat.mod_lt _ (by omega), ?_⟩, 0, rfl⟩
    exact rfl
  obtain hB | ⟨cb, off, rfl, hcb, hc⟩ := hB
  · exact absurd hB h0
  have k1 := Nat.mod_lt i (show 0 < n by omega)
  have k2 := Nat.mod_lt (i + 1) (show 0 < n by omega)
  obtain ⟨x, hx⟩ := hc (i % n) k1
  obtain ⟨y, hy⟩ := hc ((i + 1) % n) k2
  have hx2 : x.toNat < 256 := x.toNat_lt
  have hy2 : y.toNat < 256 := y.toNat_lt
  have j0 : ((n : Int) == 0) = false := by rw [beq_eq_false_iff_ne]; omega
  have e1 : (i : Int) % (n : Int) = ((i % n : Nat) : Int) := rfl
  have e2 : ((i : Int) + 1) % (n : Int) = (((i + 1) % n : Nat) : Int) := rfl
  have e3 : (i : Int) / (n : Int) = ((i / n : Nat) : Int) := rfl
  have d3 : i / n ≤ 1000 := Nat.le_trans (Nat.div_le_self _ _) hi
  have d1 : ((i % n : Nat) : Int) < n := by omega
  have d2 : (((i + 1) % n : Nat) : Int) < n := by omega
  clear hc
  generalize i % n = u at *
  generalize (i + 1) % n = v at *
  generalize i / n = d at *
  go_enter Try.func34, Try.ntmps34
  go_wp2
  go_quiet (fail)
  go_wp2
  go_ret
  refine ⟨⟨(x.toNat * 31 + y.toNat + d) % m, Nat.mod_lt _ (by omega), ?_⟩, _, rfl⟩
  exact rfl
end Go.Proofs.Ytmbllgblbdfobaa
namespace Go.Proofs.Ytmbllgblbdfobaa
open Go.RowKit
/-- The block b holds the letters l, and may be written. -/
def FB (b : Nat) (l : List UInt8) (W : World) : Prop := (∀ i, i < l.length → W.cell? ⟨b, i, none⟩ = some (bv (l.getD i 0))) ∧ ∀ i, i < l.length → W.frozen? ⟨b, i, none⟩ = false
theorem FB_set {b : Nat} {l : List UInt8} {W : World} (h : FB b l W) (i : Nat) (hi : i < l.length) (c : UInt8) : FB b (l.set i c) (W.setCell ⟨b, i, none⟩ (bv c)) := by
  refine ⟨fun j hj => ?_, fun j hj => ?_⟩
  · rw [List.length_set] at hj
    by_cases e : j = i
    · subst e
      rw [World.cell?_setCell_same' _ _ _ (by rw [h.1 j hj]; rfl)]
      rw [List.getD_eq_getElem?_getD, List.getElem?_set_self hi]; rfl
    · rw [World.cell?_setCell_other _ _ _ _ (by intro k; injection k with _ k _; exact e k.symm)]
      rw [h.1 j hj, List.getD_eq_getElem?_getD, List.getD_eq_getElem?_getD, List.getElem?_set_ne (fun k => e k.symm)]
  · rw [List.length_set] at hj
    rw [World.frozen?_setCell]; exact h.2 j hj
theorem FB_drew {b : Nat} {l : List UInt8} {W : World} (h : FB b l W) (n : Nat) : FB b l (W.drewN n) := h
theorem FB_start (w : World) (s : ByteArray) (cap : Nat) : FB w.heap.size (L s) (w.drew.alloc (.cells (bytesRow s cap) 5 ((bytesRow s cap).size, (bytesRow s cap).size + 1))) := by
  have hl : (L s).length = s.data.size := by unfold L; simp
  have hs : s.data.size = s.size := rfl
  refine ⟨fun i hi => ?_, fun i hi => ?_⟩
  · rw [show w.heap.size = w.drew.heap.size from rfl, World.cell?_alloc_mark]
    unfold bytesRow
    rw [Array.getElem?_append_left (by simp; omega), Array.getElem?_map, Array.getElem?_eq_getElem (by omega)]
    rw [List.getD_eq_getElem?_getD, List.getElem?_eq_getElem hi]
    simp [L, bv]
  · rw [show w.heap.size = w.drew.heap.size from rfl, World.frozen?_alloc_mark]
    have : ¬ (bytesRow s cap).size ≤ i := by unfold bytesRow; simp; omega
    simp [this]
/-- Up to k the letters of l are known and tell what a's known ones tell; from k on they are a's. -/
def Fi (a : List UInt8) (k : Nat) (l : List UInt8) : Prop := l.length = a.length ∧ (∀ i, i < k → Vb.knB (l.getD i 0) = true ∧ (Vb.knB (a.getD i 0) = true → a.getD i 0 = l.getD i 0)) ∧ ∀ i, k ≤ i → l.getD i 0 = a.getD i 0
theorem Fi_start (a : List UInt8) : Fi a 0 a := ⟨rfl, fun i h => by omega, fun _ _ => rfl⟩
theorem Fi_same {a l : List UInt8} {k : Nat} (h : Fi a k l) (hk : Vb.knB (l.getD k 0) = true) : Fi a (k + 1) l := by
  refine ⟨h.1, fun i hi => ?_, fun i hi => h.2.2 i (by omega)⟩
  by_cases e : i = k
  · subst e; exact ⟨hk, fun _ => (h.2.2 i (Nat.le_refl _)).symm⟩
  · exact h.2.1 i (by omega)
theorem Fi_set {a l : List UInt8} {k : Nat} {c : UInt8} (h : Fi a k l) (hl : k < a.length) (hk : Vb.knB (l.getD k 0) = false) (hc : Vb.knB c = true) : Fi a (k + 1) (l.set k c) := by
  have hl' : k < l.length := by rw [h.1]; exact hl
  refine ⟨by rw [List.length_set]; exact h.1, fun i hi => ?_, fun i hi => ?_⟩
  · by_cases e : i = k
    · subst e
      rw [List.getD_eq_getElem?_getD (l := l.set i c), List.getElem?_set_self hl', Option.getD_some, ← h.2.2 i (Nat.le_refl _), hk]
      exact ⟨hc, fun h => by simp at h⟩
    · rw [List.getD_eq_getElem?_getD (l := l.set k c), List.getElem?_set_ne (fun e' => e e'.symm), ← List.getD_eq_getElem?_getD]
      exact h.2.1 i (by omega)
  · rw [List.getD_eq_getElem?_getD (l := l.set k c), List.getElem?_set_ne (by omega), ← List.getD_eq_getElem?_getD]
    exact h.2.2 i (by omega)
theorem known_byte (c : UInt8) : Vb.knB c = (((c.toNat : Int) == 48) || ((c.toNat : Int) == 49)) := by
  unfold Vb.knB
  have h : ∀ k : UInt8, (c == k) = ((c.toNat : Int) == (k.toNat : Int)) := fun k => by
    rw [Bool.eq_iff_iff, beq_iff_eq, beq_iff_eq, ← UInt8.toNat_inj]; omega
  rw [h 48, h 49]; rfl
set_option maxRecDepth 100000 in
set_option maxHeartbeats 800000 in
theorem dFill (s : ByteArray) (a : Option Addr) (n cap f : Nat) (w : World) (hn : n ≤ 1048576) (hB : BL w.heap.size a n w) (hs : s.size ≤ 64) (hf : f ≤ 200) :
    Calls Try.prog 26 #[.string s, .slice a n cap, .int .i64 f] w fun e w' => (∃ l : List UInt8, Fi (L s) s.size l ∧ e = .returned (.string (S l))) ∧ Below w.heap.size w w' := by
  have H := hide hB
  clear hB
  go_enter Try.func26, Try.ntmps26
  go_wp2
  rw [run_bytes_of_string w 9 22 5 s (by kernel_rfl) (by kernel_rfl) (by kernel_rfl)]
  generalize grownCap w s.size 0 5 = cp
  have HF := hide (FB_start w s cp)
  have HB : Hid (Below w.heap.size w (w.drew.alloc (.cells (bytesRow s cp) 5 ((bytesRow s cp).size, (bytesRow s cp).size + 1)))) := (below_drewN (brf w : Below w.heap.size w w) 1).alloc (Nat.le_refl _) (.cells (bytesRow s cp) 5 ((bytesRow s cp).size, (bytesRow s cp).size + 1))
  generalize w.drew.alloc (.cells (bytesRow s cp) 5 ((bytesRow s cp).size, (bytesRow s cp).size + 1)) = W0 at *
  have HL : Hid (BL w.heap.size a n W0) := BL_kept (r := none) (unhide H) (grown_of_below (unhide HB)) (by simp)
  clear H
  go_wp2
  go_loopw [8] (fun i W => ∃ k : Nat, k ≤ s.size ∧ i = .int .i64 k ∧ ∃ l : List UInt8, Fi (L s) k l ∧ FB w.heap.size l W ∧ BL w.heap.size a n W ∧ Below w.heap.size w W) (fun i _ => s.size - (intOf i).toNat)
  case atStart => exact ⟨0, Nat.zero_le _, rfl, L s, Fi_start _, unhide HF, unhide HL, unhide HB⟩
  case round =>
    clear HF HL HB
    obtain ⟨k, hk, rfl, l, hi, hF, hL, hB⟩ := hrel
    have hlen : l.length = s.size := by rw [hi.1, L_len]
    have HI := hide hi
    have HF := hide hF
    have HL := hide hL
    have HB := hide hB
    clear hi hL hB
    by_cases hks : k < s.size
    · have c0 := hF.1 k (by omega)
      have f0 := hF.2 k (by omega)
      clear hF
      unfold bv at c0
      by_cases hkn : Vb.knB (l.getD k 0) = true
      · have hk2 := hkn
        have HK := hide hkn
        rw [known_byte, Bool.or_eq_true, beq_iff_eq, beq_iff_eq] at hk2
        clear hkn
        generalize hc : (l.getD k 0).toNat = c at *
        clear hc
        rcases hk2 with h | h
        · rw [h] at c0
          clear h
          go_wp2
          exact ⟨⟨k + 1, by omega, by go_num, l, Fi_same (unhide HI) (unhide HK), unhide HF, unhide HL, unhide HB⟩, by simp [intOf]; omega⟩
        · rw [h] at c0
          clear h
          go_wp2
          exact ⟨⟨k + 1, by omega, by go_num, l, Fi_same (unhide HI) (unhide HK), unhide HF, unhide HL, unhide HB⟩, by simp [intOf]; omega⟩
      · have hk2 := hkn
        have HK := hide hkn
        rw [known_byte, Bool.or_eq_true, beq_iff_eq, beq_iff_eq, not_or] at hk2
        clear hkn
        obtain ⟨q0, q1⟩ := hk2
        generalize hc : (l.getD k 0).toNat = c at *
        clear hc
        have p0 : ((c : Int) != 48) = true := by rw [bne_iff_ne]; exact q0
        have p1 : ((c : Int) != 49) = true := by rw [bne_iff_ne]; exact q1
        clear q0 q1
        go_wp2_with fail
        have e1 : ((f : Int) + (k : Int)) = ((f + k : Nat) : Int) := by omega
        rw [e1]
        clear e1
        refine (lAtW w.heap.size a n cap (f + k) 2 _ (unhide HL) (by omega) hn (by omega) (by omega)).mono ?_
        rintro e w1 ⟨⟨r, hr, rfl⟩, q, rfl⟩
        go_wp2
        have e2 : Value.int .u8 (48 + (r : Int)) = bv (if r = 0 then 48 else 49) := by
          have : r = 0 ∨ r = 1 := by omega
          rcases this with rfl | rfl <;> rfl
        rw [e2]
        have hkc : Vb.knB (if r = 0 then 48 else 49) = true := by split <;> rfl
        have hsize := (unhide HB).size
        refine ⟨⟨k + 1, by omega, by go_num, l.set k (if r = 0 then 48 else 49), Fi_set (unhide HI) (by rw [L_len]; exact hks) (by simpa using unhide HK) hkc, FB_set (FB_drew (unhide HF) q) k (by omega) _, ?_, ?_⟩, by simp [intOf]; omega⟩
        · exact BL_kept (unhide HL) (grown_set (grown_drew (grown_refl wr (some w.heap.size)) q) k _) (by intro x hx; simp at hx; omega)
        · exact bst (below_drewN (unhide HB) q) (Nat.le_refl _) _
    · have hk' : k = s.size := by omega
      have hcv : (convert 22 9 (.slice (some ⟨w.heap.size, 0, none⟩) s.size cp)).run Try.prog wr = .ok (.string (S l)) wr := by
        rw [← hlen]
        refine run_convert_bytes_back (P := Try.prog) wr 22 9 5 ⟨w.heap.size, 0, none⟩ cp l (by kernel_rfl) (by kernel_rfl) (by kernel_rfl) ?_
        intro j hj
        rw [Addr.add_lit, Nat.zero_add, (unhide HF).1 j hj, List.getD_eq_getElem?_getD, List.getElem?_eq_getElem hj]
        rfl
      clear hF
      go_wp2
      go_ret
      subst hk'
      exact ⟨⟨l, unhide HI, rfl⟩, unhide HB⟩
end Go.Proofs.Ytmbllgblbdfobaa
namespace Go.Proofs.Ytmbllgblbdfobaa
open Go.RowKit
theorem byte_ne {c d : UInt8} (h : c ≠ d) : ((c.toNat : Int) == (d.toNat : Int)) = false := by
  rw [beq_eq_false_iff_ne]; intro e; apply h; rw [← UInt8.toNat_inj]; omega
set_option maxRecDepth 100000 in
set_option maxHeartbeats 800000 in
theorem dTold (a b : ByteArray) (w : World) (hs : a.size = b.size) (h1 : 1 ≤ a.size) (h2 : a.size ≤ 64) (ht : ∀ i (hi : i < a.size) (hj : i < b.size), Vb.knB a[i] = true → a[i] = b[i]) :
    Calls Try.prog 27 #[.string a, .string b] w fun e w' => e = .returned (.bool true) ∧ Below w.heap.size w w' := by
  have HT := hide ht
  clear ht
  have h3 : b.size ≤ 64 := by omega
  have h4 : 1 ≤ b.size := by omega
  have j0 : ((b.size : Int) == 0) = false := by rw [beq_eq_false_iff_ne]; omega
  have j1 : ((a.size : Int) != (b.size : Int)) = false := by rw [hs]; simp
  have hs' : (a.size : Int) = b.size := by omega
  go_enter Try.func27, Try.ntmps27
  go_wp2
  go_loopw [5] (fun i W => ∃ k : Nat, k ≤ b.size ∧ i = .int .i64 k ∧ Below w.heap.size w W) (fun i _ => b.size - (intOf i).toNat)
  case atStart => exact ⟨0, Nat.zero_le _, rfl, brf _⟩
  case round =>
    obtain ⟨k, hk, rfl, hB⟩ := hrel
    have HB := hide hB
    clear hB
    by_cases hks : k < b.size
    · have hka : k < a.size := by omega
      by_cases hkn : Vb.knB a[k] = true
      · have he := (unhide HT) k hka hks hkn
        unfold Vb.knB at hkn
        rw [Bool.or_eq_true, beq_iff_eq, beq_iff_eq] at hkn
        rcases hkn with h | h
        · have hb : b[k] = 48 := by rw [← he]; exact h
          clear he
          go_wp2
          go_quiet (fail)
          go_wp2
          exact ⟨⟨k + 1, by omega, by go_num, below_drewN (unhide HB) _⟩, by simp [intOf]; omega⟩
        · have hb : b[k] = 49 := by rw [← he]; exact h
          clear he
          go_wp2
          go_quiet (fail)
          go_wp2
          exact ⟨⟨k + 1, by omega, by go_num, below_drewN (unhide HB) _⟩, by simp [intOf]; omega⟩
      · rw [known_byte, Bool.or_eq_true, beq_iff_eq, beq_iff_eq, not_or] at hkn
        obtain ⟨q0, q1⟩ := hkn
        have p0 : ((a[k].toNat : Int) == 48) = false := by rw [beq_eq_false_iff_ne]; exact q0
        have p1 : ((a[k].toNat : Int) == 49) = false := by rw [beq_eq_false_iff_ne]; exact q1
        clear q0 q1
        go_wp2
        go_quiet (fail)
        go_wp2
        exact ⟨⟨k + 1, by omega, by go_num, below_drewN (unhide HB) _⟩, by simp [intOf]; omega⟩
    · have hk' : k = b.size := by omega
      go_wp2
      go_ret
      exact ⟨rfl, unhide HB⟩
end Go.Proofs.Ytmbllgblbdfobaa
namespace Go.Proofs.Ytmbllgblbdfobaa
open Go.RowKit
set_option maxRecDepth 100000 in
set_option maxHeartbeats 400000 in
theorem iUnary19 (s : ByteArray) (w : World) (hs : s.size ≤ maxLen) (hv : Vb.okV (L s) = true) :
    Calls Try.prog 21 #[.int .i64 19, .string s] w fun e w' => e = .returned (.string (S (unL 19 (L s)))) ∧ Below w.heap.size w w' := by
  obtain ⟨h1, h2, h3⟩ := (okV_iff s).1 hv
  have hr : Vb.txt s.size ((Vb.kn (L s)) &&& (Vb.wh (L s)) ||| (Vb.kn (L s)) &&& ~~~(Vb.wh (L s))) ((Vb.kn (L s)) &&& ~~~(Vb.wh (L s))) = unL 19 (L s) := by
    have := not_txt h3 (by rw [L_len]; exact h2); rw [L_len] at this; exact this
  have HV := hide hv
  clear hv h3
  have hix : ∀ w, (Instr.index 76 (.agg uTab) (.int .i64 19)).run Try.prog w = .ok (.func (.func 103) #[] #[]) w := fun _ => by kernel_rfl
  generalize hK : Vb.kn (L s) = K at *
  generalize hH : Vb.wh (L s) = H at *
  have HK := hide hK
  have HH := hide hH
  clear hK hH
  generalize hA : (K &&& H ||| K &&& ~~~H) = A at hr
  generalize hB : (K &&& ~~~H) = B at hr
  have HR := hide hr
  have HA := hide hA
  have HB := hide hB
  clear hr hA hB
  go_enter Try.func21, Try.ntmps21
  go_wp2_with fail
  refine (iVecOf s _ hs (unhide HV)).mono ?_
  rw [unhide HK, unhide HH]
  rintro e w1 ⟨rfl, hb1⟩
  unfold V
  go_wp2_with fail
  go_region_held3 (fun w' => w'.cell? ⟨w1.heap.size, 0, none⟩ = some (.int .i64 s.size) ∧ w'.cell? ⟨w1.heap.size, 1, none⟩ = some (.int .u64 (U K)) ∧ w'.cell? ⟨w1.heap.size, 2, none⟩ = some (.int .u64 (U H))) (first | (go_simp; done) | (refine ⟨?_, ?_, ?_⟩ <;> (refine cell_later hb ?_; go_simp)) | go_keep) (first | (go_at_call 55; refine (iUnaryOps _).mono ?_; rintro e w2 ⟨rfl, hb⟩; have hbA := hb) | (go_at_call 103; refine (iNot _ _ _ _).mono ?_; rw [unhide HA, unhide HB]; rintro e w3 ⟨rfl, hb⟩; have hbB := hb; unfold V) | (go_at_call 54; refine (iText _ _ _ h2 _).mono ?_; rw [unhide HR]; rintro e w4 ⟨rfl, hb⟩; have hbC := hb))
  go_wp2
  go_ret
  exact ⟨rfl, btr (btr (btr (bdr (bal hb1 _)) hbA) hbB) hbC⟩
set_option maxRecDepth 100000 in
set_option maxHeartbeats 400000 in
theorem iUnary20 (s : ByteArray) (w : World) (hs : s.size ≤ maxLen) (hv : Vb.okV (L s) = true) :
    Calls Try.prog 21 #[.int .i64 20, .string s] w fun e w' => e = .returned (.string (S (unL 20 (L s)))) ∧ Below w.heap.size w w' := by
  obtain ⟨h1, h2, h3⟩ := (okV_iff s).1 hv
  have hr : Vb.txt s.size (rkK s.size s.size (Vb.ones s.size) (Vb.kn (L s))) (rkH s.size s.size (Vb.ones s.size) (Vb.kn (L s)) (0#64 - (Vb.wh (L s)))) = unL 20 (L s) := by
    have := neg_txt (l := L s) (by rw [L_len]; exact h2); rw [L_len] at this; unfold unL; rw [if_neg (by decide), if_pos rfl, L_len]; exact this
  have HV := hide hv
  clear hv h3
  have hix : ∀ w, (Instr.index 76 (.agg uTab) (.int .i64 20)).run Try.prog w = .ok (.func (.func 104) #[] #[]) w := fun _ => by kernel_rfl
  generalize hK : Vb.kn (L s) = K at *
  generalize hH : Vb.wh (L s) = H at *
  have HK := hide hK
  have HH := hide hH
  clear hK hH
  generalize hA : (rkK s.size s.size (Vb.ones s.size) K) = A at hr
  generalize hB : (rkH s.size s.size (Vb.ones s.size) K (0#64 - H)) = B at hr
  have HR := hide hr
  have HA := hide hA
  have HB := hide hB
  clear hr hA hB
  go_enter Try.func21, Try.ntmps21
  go_wp2_with fail
  refine (iVecOf s _ hs (unhide HV)).mono ?_
  rw [unhide HK, unhide HH]
  rintro e w1 ⟨rfl, hb1⟩
  unfold V
  go_wp2_with fail
  go_region_held3 (fun w' => w'.cell? ⟨w1.heap.size, 0, none⟩ = some (.int .i64 s.size) ∧ w'.cell? ⟨w1.heap.size, 1, none⟩ = some (.int .u64 (U K)) ∧ w'.cell? ⟨w1.heap.size, 2, none⟩ = some (.int .u64 (U H))) (first | (go_simp; done) | (refine ⟨?_, ?_, ?_⟩ <;> (refine cell_later hb ?_; go_simp)) | go_keep) (first | (go_at_call 55; refine (iUnaryOps _).mono ?_; rintro e w2 ⟨rfl, hb⟩; have hbA := hb) | (go_at_call 104; refine (iNeg _ _ _ h2 _).mono ?_; rw [unhide HA, unhide HB]; rintro e w3 ⟨rfl, hb⟩; have hbB := hb; unfold V) | (go_at_call 54; refine (iText _ _ _ h2 _).mono ?_; rw [unhide HR]; rintro e w4 ⟨rfl, hb⟩; have hbC := hb))
  go_wp2
  go_ret
  exact ⟨rfl, btr (btr (btr (bdr (bal hb1 _)) hbA) hbB) hbC⟩
set_option maxRecDepth 100000 in
set_option maxHeartbeats 400000 in
theorem iUnary21 (s : ByteArray) (w : World) (hs : s.size ≤ maxLen) (hv : Vb.okV (L s) = true) :
    Calls Try.prog 21 #[.int .i64 21, .string s] w fun e w' => e = .returned (.string (S (unL 21 (L s)))) ∧ Below w.heap.size w w' := by
  obtain ⟨h1, h2, h3⟩ := (okV_iff s).1 hv
  have ht : tru s.size (Vb.kn (L s) &&& Vb.wh (L s) ||| Vb.kn (L s) &&& ~~~Vb.wh (L s)) (Vb.kn (L s) &&& ~~~Vb.wh (L s)) = truthL ((L s).map notB) := by
    have := tru_truth (not_valid h3) (by rw [List.length_map, L_len]; exact h2)
    rw [List.length_map, L_len, kn_not h3, wh_not h3] at this; exact this
  generalize hTT : truthL ((L s).map notB) = T at ht
  have hr : Vb.txt 1 (Vb.kn [T] &&& Vb.wh [T] ||| Vb.kn [T] &&& ~~~Vb.wh [T]) (Vb.kn [T] &&& ~~~Vb.wh [T]) = unL 21 (L s) := by
    rw [not_one _ (by rw [← hTT]; exact truth_valid _)]; unfold unL; rw [if_neg (by decide), if_neg (by decide), if_pos rfl, and_all h3 (by rw [L_len]; exact h1), hTT]
  have HT := hide ht
  clear ht hTT
  have HV := hide hv
  clear hv h3
  have hix : ∀ w, (Instr.index 76 (.agg uTab) (.int .i64 21)).run Try.prog w = .ok (.func (.func 105) #[] #[]) w := fun _ => by kernel_rfl
  generalize hK : Vb.kn (L s) = K at *
  generalize hH : Vb.wh (L s) = H at *
  have HK := hide hK
  have HH := hide hH
  clear hK hH
  generalize hA : (Vb.kn [T] &&& Vb.wh [T] ||| Vb.kn [T] &&& ~~~Vb.wh [T]) = A at hr
  generalize hB : (Vb.kn [T] &&& ~~~Vb.wh [T]) = B at hr
  have HR := hide hr
  have HA := hide hA
  have HB := hide hB
  clear hr hA hB
  go_enter Try.func21, Try.ntmps21
  go_wp2_with fail
  refine (iVecOf s _ hs (unhide HV)).mono ?_
  rw [unhide HK, unhide HH]
  rintro e w1 ⟨rfl, hb1⟩
  unfold V
  go_wp2_with fail
  go_region_held3 (fun w' => w'.cell? ⟨w1.heap.size, 0, none⟩ = some (.int .i64 s.size) ∧ w'.cell? ⟨w1.heap.size, 1, none⟩ = some (.int .u64 (U K)) ∧ w'.cell? ⟨w1.heap.size, 2, none⟩ = some (.int .u64 (U H))) (first | (go_simp; done) | (refine ⟨?_, ?_, ?_⟩ <;> (refine cell_later hb ?_; go_simp)) | go_keep) (first | (go_at_call 55; refine (iUnaryOps _).mono ?_; rintro e w2 ⟨rfl, hb⟩; have hbA := hb) | (go_at_call 105; refine (iAll _ _ _ h2 _ (unhide HT) _).mono ?_; rw [unhide HA, unhide HB]; rintro e w3 ⟨rfl, hb⟩; have hbB := hb; unfold V) | (go_at_call 54; refine (iText _ _ _ (by decide) _).mono ?_; rw [unhide HR]; rintro e w4 ⟨rfl, hb⟩; have hbC := hb))
  go_wp2
  go_ret
  exact ⟨rfl, btr (btr (btr (bdr (bal hb1 _)) hbA) hbB) hbC⟩
set_option maxRecDepth 100000 in
set_option maxHeartbeats 400000 in
theorem iUnary22 (s : ByteArray) (w : World) (hs : s.size ≤ maxLen) (hv : Vb.okV (L s) = true) :
    Calls Try.prog 21 #[.int .i64 22, .string s] w fun e w' => e = .returned (.string (S (unL 22 (L s)))) ∧ Below w.heap.size w w' := by
  obtain ⟨h1, h2, h3⟩ := (okV_iff s).1 hv
  have hr : Vb.txt 1 (Vb.kn [tru s.size (Vb.kn (L s)) (Vb.wh (L s))]) (Vb.wh [tru s.size (Vb.kn (L s)) (Vb.wh (L s))]) = unL 22 (L s) := by
    have := tru_truth h3 (by rw [L_len]; exact h2); rw [L_len] at this; rw [this, txt_one _ (truth_valid _)]; unfold unL; rw [if_neg (by decide), if_neg (by decide), if_neg (by decide), if_pos rfl, or_truth h3 (by rw [L_len]; exact h1)]
  have HV := hide hv
  clear hv h3
  have hix : ∀ w, (Instr.index 76 (.agg uTab) (.int .i64 22)).run Try.prog w = .ok (.func (.func 106) #[] #[]) w := fun _ => by kernel_rfl
  generalize hK : Vb.kn (L s) = K at *
  generalize hH : Vb.wh (L s) = H at *
  have HK := hide hK
  have HH := hide hH
  clear hK hH
  generalize hA : (Vb.kn [tru s.size K H]) = A at hr
  generalize hB : (Vb.wh [tru s.size K H]) = B at hr
  have HR := hide hr
  have HA := hide hA
  have HB := hide hB
  clear hr hA hB
  go_enter Try.func21, Try.ntmps21
  go_wp2_with fail
  refine (iVecOf s _ hs (unhide HV)).mono ?_
  rw [unhide HK, unhide HH]
  rintro e w1 ⟨rfl, hb1⟩
  unfold V
  go_wp2_with fail
  go_region_held3 (fun w' => w'.cell? ⟨w1.heap.size, 0, none⟩ = some (.int .i64 s.size) ∧ w'.cell? ⟨w1.heap.size, 1, none⟩ = some (.int .u64 (U K)) ∧ w'.cell? ⟨w1.heap.size, 2, none⟩ = some (.int .u64 (U H))) (first | (go_simp; done) | (refine ⟨?_, ?_, ?_⟩ <;> (refine cell_later hb ?_; go_simp)) | go_keep) (first | (go_at_call 55; refine (iUnaryOps _).mono ?_; rintro e w2 ⟨rfl, hb⟩; have hbA := hb) | (go_at_call 106; refine (iTruth _ _ _ h2 _).mono ?_; rw [unhide HA, unhide HB]; rintro e w3 ⟨rfl, hb⟩; have hbB := hb; unfold V) | (go_at_call 54; refine (iText _ _ _ (by decide) _).mono ?_; rw [unhide HR]; rintro e w4 ⟨rfl, hb⟩; have hbC := hb))
  go_wp2
  go_ret
  exact ⟨rfl, btr (btr (btr (bdr (bal hb1 _)) hbA) hbB) hbC⟩
set_option maxRecDepth 100000 in
set_option maxHeartbeats 400000 in
theorem iUnary23 (s : ByteArray) (w : World) (hs : s.size ≤ maxLen) (hv : Vb.okV (L s) = true) :
    Calls Try.prog 21 #[.int .i64 23, .string s] w fun e w' => e = .returned (.string (S (unL 23 (L s)))) ∧ Below w.heap.size w w' := by
  obtain ⟨h1, h2, h3⟩ := (okV_iff s).1 hv
  have hr : Vb.txt 1 (if (Vb.kn (L s)) = Vb.ones s.size then 1#64 else 0#64) (if (Vb.kn (L s)) = Vb.ones s.size then BitVec.ofInt 64 (bits .and .i64 (wrap64 (U (popc (Vb.wh (L s))))) 127) &&& Vb.ones 1 else 0#64) = unL 23 (L s) := by
    have := odd_txt h3 (by rw [L_len]; exact h1) (by rw [L_len]; exact h2); rw [L_len] at this; rw [this]; rfl
  have HV := hide hv
  clear hv h3
  have hix : ∀ w, (Instr.index 76 (.agg uTab) (.int .i64 23)).run Try.prog w = .ok (.func (.func 107) #[] #[]) w := fun _ => by kernel_rfl
  generalize hK : Vb.kn (L s) = K at *
  generalize hH : Vb.wh (L s) = H at *
  have HK := hide hK
  have HH := hide hH
  clear hK hH
  generalize hA : (if K = Vb.ones s.size then 1#64 else 0#64) = A at hr
  generalize hB : (if K = Vb.ones s.size then BitVec.ofInt 64 (bits .and .i64 (wrap64 (U (popc H))) 127) &&& Vb.ones 1 else 0#64) = B at hr
  have HR := hide hr
  have HA := hide hA
  have HB := hide hB
  clear hr hA hB
  go_enter Try.func21, Try.ntmps21
  go_wp2_with fail
  refine (iVecOf s _ hs (unhide HV)).mono ?_
  rw [unhide HK, unhide HH]
  rintro e w1 ⟨rfl, hb1⟩
  unfold V
  go_wp2_with fail
  go_region_held3 (fun w' => w'.cell? ⟨w1.heap.size, 0, none⟩ = some (.int .i64 s.size) ∧ w'.cell? ⟨w1.heap.size, 1, none⟩ = some (.int .u64 (U K)) ∧ w'.cell? ⟨w1.heap.size, 2, none⟩ = some (.int .u64 (U H))) (first | (go_simp; done) | (refine ⟨?_, ?_, ?_⟩ <;> (refine cell_later hb ?_; go_simp)) | go_keep) (first | (go_at_call 55; refine (iUnaryOps _).mono ?_; rintro e w2 ⟨rfl, hb⟩; have hbA := hb) | (go_at_call 107; refine (iOdd _ _ _ h2 _).mono ?_; rw [unhide HA, unhide HB]; rintro e w3 ⟨rfl, hb⟩; have hbB := hb; unfold V) | (go_at_call 54; refine (iText _ _ _ (by decide) _).mono ?_; rw [unhide HR]; rintro e w4 ⟨rfl, hb⟩; have hbC := hb))
  go_wp2
  go_ret
  exact ⟨rfl, btr (btr (btr (bdr (bal hb1 _)) hbA) hbB) hbC⟩
set_option maxRecDepth 100000 in
set_option maxHeartbeats 400000 in
theorem iUnary24 (s : ByteArray) (w : World) (hs : s.size ≤ maxLen) (hv : Vb.okV (L s) = true) :
    Calls Try.prog 21 #[.int .i64 24, .string s] w fun e w' => e = .returned (.string (S (unL 24 (L s)))) ∧ Below w.heap.size w w' := by
  obtain ⟨h1, h2, h3⟩ := (okV_iff s).1 hv
  have hr : Vb.txt 1 (Vb.kn [tru s.size (Vb.kn (L s)) (Vb.wh (L s))] &&& Vb.wh [tru s.size (Vb.kn (L s)) (Vb.wh (L s))] ||| Vb.kn [tru s.size (Vb.kn (L s)) (Vb.wh (L s))] &&& ~~~Vb.wh [tru s.size (Vb.kn (L s)) (Vb.wh (L s))]) (Vb.kn [tru s.size (Vb.kn (L s)) (Vb.wh (L s))] &&& ~~~Vb.wh [tru s.size (Vb.kn (L s)) (Vb.wh (L s))]) = unL 24 (L s) := by
    have := tru_truth h3 (by rw [L_len]; exact h2); rw [L_len] at this; rw [this, not_one _ (truth_valid _)]; rfl
  have HV := hide hv
  clear hv h3
  have hix : ∀ w, (Instr.index 76 (.agg uTab) (.int .i64 24)).run Try.prog w = .ok (.func (.func 108) #[] #[]) w := fun _ => by kernel_rfl
  generalize hK : Vb.kn (L s) = K at *
  generalize hH : Vb.wh (L s) = H at *
  have HK := hide hK
  have HH := hide hH
  clear hK hH
  generalize hA : (Vb.kn [tru s.size K H] &&& Vb.wh [tru s.size K H] ||| Vb.kn [tru s.size K H] &&& ~~~Vb.wh [tru s.size K H]) = A at hr
  generalize hB : (Vb.kn [tru s.size K H] &&& ~~~Vb.wh [tru s.size K H]) = B at hr
  have HR := hide hr
  have HA := hide hA
  have HB := hide hB
  clear hr hA hB
  go_enter Try.func21, Try.ntmps21
  go_wp2_with fail
  refine (iVecOf s _ hs (unhide HV)).mono ?_
  rw [unhide HK, unhide HH]
  rintro e w1 ⟨rfl, hb1⟩
  unfold V
  go_wp2_with fail
  go_region_held3 (fun w' => w'.cell? ⟨w1.heap.size, 0, none⟩ = some (.int .i64 s.size) ∧ w'.cell? ⟨w1.heap.size, 1, none⟩ = some (.int .u64 (U K)) ∧ w'.cell? ⟨w1.heap.size, 2, none⟩ = some (.int .u64 (U H))) (first | (go_simp; done) | (refine ⟨?_, ?_, ?_⟩ <;> (refine cell_later hb ?_; go_simp)) | go_keep) (first | (go_at_call 55; refine (iUnaryOps _).mono ?_; rintro e w2 ⟨rfl, hb⟩; have hbA := hb) | (go_at_call 108; refine (iNone _ _ _ h2 _).mono ?_; rw [unhide HA, unhide HB]; rintro e w3 ⟨rfl, hb⟩; have hbB := hb; unfold V) | (go_at_call 54; refine (iText _ _ _ (by decide) _).mono ?_; rw [unhide HR]; rintro e w4 ⟨rfl, hb⟩; have hbC := hb))
  go_wp2
  go_ret
  exact ⟨rfl, btr (btr (btr (bdr (bal hb1 _)) hbA) hbB) hbC⟩
end Go.Proofs.Ytmbllgblbdfobaa
namespace Go.Proofs.Ytmbllgblbdfobaa
open Go.RowKit
set_option maxHeartbeats 400000 in
theorem iUnary_no (op : Int) (s : ByteArray) (w : World) (hs : s.size ≤ maxLen) (hv : Vb.okV (L s) = false) :
    Calls Try.prog 21 #[.int .i64 op, .string s] w fun e w' => e = .returned (.string (S [])) ∧ Below w.heap.size w w' := by
  have HV := hide hv
  clear hv
  go_enter Try.func21, Try.ntmps21
  go_wp2_with fail
  refine (iVecOf_no s _ hs (unhide HV)).mono ?_
  rintro e w1 ⟨rfl, hb1⟩
  unfold V
  go_wp2
  go_ret
  exact ⟨rfl, bal hb1 _⟩
set_option maxHeartbeats 400000 in
theorem iUnary_op (op : Int) (s : ByteArray) (w : World) (hs : s.size ≤ maxLen) (hv : Vb.okV (L s) = true) (ho : op < 19 ∨ 24 < op) :
    Calls Try.prog 21 #[.int .i64 op, .string s] w fun e w' => e = .returned (.string (S [])) ∧ Below w.heap.size w w' := by
  have HV := hide hv
  clear hv
  rcases ho with ho | ho
  · go_enter Try.func21, Try.ntmps21
    go_wp2_with fail
    refine (iVecOf s _ hs (unhide HV)).mono ?_
    rintro e w1 ⟨rfl, hb1⟩
    unfold V
    go_wp2
    go_ret
    exact ⟨rfl, bal hb1 _⟩
  · have hd : decide (op < 19) = false := by simp; omega
    go_enter Try.func21, Try.ntmps21
    go_wp2_with fail
    refine (iVecOf s _ hs (unhide HV)).mono ?_
    rintro e w1 ⟨rfl, hb1⟩
    unfold V
    go_wp2
    go_ret
    exact ⟨rfl, bal hb1 _⟩
/-- What Unary answers. -/
def unTop (op : Int) (s : ByteArray) : ByteArray := if Vb.okV (L s) then S (unL op (L s)) else S []
theorem unTop_op {op : Int} {s : ByteArray} (h : op < 19 ∨ 24 < op) : unTop op s = S [] := by
  unfold unTop
  split
  · unfold unL; rw [if_neg (by omega), if_neg (by omega), if_neg (by omega), if_neg (by omega), if_neg (by omega), if_neg (by omega)]
  · rfl
theorem six {op : Int} (h : ¬ (op < 19 ∨ 24 < op)) : op = 19 ∨ op = 20 ∨ op = 21 ∨ op = 22 ∨ op = 23 ∨ op = 24 := by omega
theorem sUnaryT (op : Int) (s : ByteArray) (w : World) (hs : s.size ≤ maxLen) :
    Calls Try.prog 44 #[.int .i64 op, .string s] w fun e w' => e = .returned (.string (unTop op s)) ∧ Below w.heap.size w w' := by
  cases hv : Vb.okV (L s)
  · unfold unTop; rw [hv]; exact sUnary_no op s w hs hv
  · by_cases ho : op < 19 ∨ 24 < op
    · rw [unTop_op ho]; exact sUnary_op op s w hs hv ho
    · unfold unTop; rw [hv]
      rcases six ho with rfl | rfl | rfl | rfl | rfl | rfl
      · exact sUnary19 s w hs hv
      · exact sUnary20 s w hs hv
      · exact sUnary21 s w hs hv
      · exact sUnary22 s w hs hv
      · exact sUnary23 s w hs hv
      · exact sUnary24 s w hs hv
theorem iUnaryT (op : Int) (s : ByteArray) (w : World) (hs : s.size ≤ maxLen) :
    Calls Try.prog 21 #[.int .i64 op, .string s] w fun e w' => e = .returned (.string (unTop op s)) ∧ Below w.heap.size w w' := by
  cases hv : Vb.okV (L s)
  · unfold unTop; rw [hv]; exact iUnary_no op s w hs hv
  · by_cases ho : op < 19 ∨ 24 < op
    · rw [unTop_op ho]; exact iUnary_op op s w hs hv ho
    · unfold unTop; rw [hv]
      rcases six ho with rfl | rfl | rfl | rfl | rfl | rfl
      · exact iUnary19 s w hs hv
      · exact iUnary20 s w hs hv
      · exact iUnary21 s w hs hv
      · exact iUnary22 s w hs hv
      · exact iUnary23 s w hs hv
      · exact iUnary24 s w hs hv
set_option maxHeartbeats 400000 in
theorem lUnary (op : Int) (s : ByteArray) (w : World) (_hop : (Lit.int .i64 op).wf = true) (hs : s.size ≤ maxLen) :
    Calls Try.prog 14 #[.int .i64 op, .string s] w fun e w' => e = .returned (.bool true) ∧ Below w.heap.size w w' := by
  by_cases h : 1048576 < (s.size : Int)
  · go_enter Try.func14, Try.ntmps14
    go_wp2
    go_ret
    exact ⟨rfl, brf _⟩
  · go_enter Try.func14, Try.ntmps14
    go_wp2_with fail
    refine (sUnaryT op s _ hs).mono ?_
    rintro e w1 ⟨rfl, hb1⟩
    generalize hR : unTop op s = R
    have HR := hide hR
    clear hR
    go_wp2_with fail
    refine (iUnaryT op s _ hs).mono ?_
    rw [unhide HR]
    rintro e w2 ⟨rfl, hb2⟩
    go_wp2
    go_ret
    exact ⟨rfl, btr hb1 hb2⟩
end Go.Proofs.Ytmbllgblbdfobaa
