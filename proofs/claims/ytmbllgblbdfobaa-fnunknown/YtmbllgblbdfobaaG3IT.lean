/- What the program's text answers: the letters of the vector, the highest bit first. -/
/- The law FnExactChoose's walk: the program's Choose answers as the specification's. -/
/- The law FnExactIntOf's walk: the program's IntOf answers as the specification's. -/
/- What the specification's l01Add, l01Neg and l01Sub answer: sums modulo two to the width. -/
import Derived.Test.YtmbllgblbdfobaaG2I1
import Derived.Test.YtmbllgblbdfobaaG1Rsz
import Derived.Test.YtmbllgblbdfobaaG0Bits
import Derived.Deep.QuietTactic
import Derived.BigQuiet
namespace Go.Proofs.Ytmbllgblbdfobaa
open Go.RowKit
/-- The array that text fills: i letters stand, the rest is 0. -/
def row (l : List UInt8) (i : Nat) : Array Value := ((l.take i ++ List.replicate (64 - i) (0 : UInt8)).map fun (c : UInt8) => Value.int .u8 (c.toNat : Int)).toArray
theorem row_step (l : List UInt8) (i : Nat) (h : i < l.length) (h64 : i < 64) : (row l i).setIfInBounds i (.int .u8 (l[i].toNat : Int)) = row l (i + 1) := by
  unfold row
  rw [List.setIfInBounds_toArray]
  congr 1
  have e : 64 - i = (64 - (i + 1)) + 1 := by omega
  rw [e, List.replicate_succ, List.take_succ_eq_append_getElem h, List.map_append, List.set_append_right _ _ (by simp; omega)]
  have hz : i - (List.map (fun (c : UInt8) => Value.int .u8 (c.toNat : Int)) (List.take i l)).length = 0 := by simp; omega
  rw [hz]
  simp only [List.map_append, List.map_cons, List.append_assoc, List.cons_append, List.nil_append, List.set_cons_zero]
theorem and1 (k : BitVec 64) (m : Nat) : k >>> m &&& 1#64 = if k.getLsbD m then 1#64 else 0#64 := by
  apply BitVec.eq_of_getLsbD_eq
  intro i hi
  rw [BitVec.getLsbD_and, BitVec.getLsbD_ushiftRight, BitVec.getLsbD_one]
  by_cases h0 : i = 0
  · subst h0; cases k.getLsbD m <;> simp
  · cases k.getLsbD m <;> simp [h0, BitVec.getLsbD_one]
theorem idx_eq (k h : BitVec 64) (m : Nat) (hm : m < 64) : bits .or .u64 (IntKind.u64.wrap (bits .and .u64 (U k / 2 ^ m) 1 * 2)) (bits .and .u64 (U h / 2 ^ m) 1) = (if k.getLsbD m then 2 else 0) + (if h.getLsbD m then 1 else 0) := by
  have e1 := U_shr k m
  have e2 := U_shr h m
  rw [Nat.min_eq_left (by omega)] at e1 e2
  rw [e1, e2, U_and1, U_and1, U_shl1, U_or, and1, and1]
  cases k.getLsbD m <;> cases h.getLsbD m <;> rfl
theorem txt_get (n : Nat) (k h : BitVec 64) (j : Nat) (hj : j < n) : (Vb.txt n k h)[j]'(by rw [Vb.txt_len]; exact hj) = Vb.letter (k.getLsbD (n - 1 - j)) (h.getLsbD (n - 1 - j)) := by
  have := Vb.rat_txt n k h (n - 1 - j)
  rw [if_pos (by omega)] at this
  unfold Vb.rat at this
  rw [List.getElem?_reverse (by rw [Vb.txt_len]; omega), Vb.txt_len, show n - 1 - (n - 1 - j) = j by omega, List.getElem?_eq_getElem (by rw [Vb.txt_len]; exact hj)] at this
  exact Option.some.inj this
theorem row_alloc {X : World} {a b : Array Value} (h : a = b) : X.alloc (.cells a 79) = X.alloc (.cells b 79) := by rw [h]
theorem row_get (l : List UInt8) (i j : Nat) (h : j < i) (hl : j < l.length) : (row l i)[j]? = some (.int .u8 (l[j].toNat : Int)) := by
  unfold row
  rw [List.getElem?_toArray, List.getElem?_map, List.getElem?_append_left (by simp; omega), List.getElem?_take_of_lt h, List.getElem?_eq_getElem hl]; rfl
theorem text_back (n : Nat) (k h : BitVec 64) (X : World) (b : Nat) (hb : b = X.heap.size) :
    (convert 22 9 (.slice (some ⟨b, 0, none⟩) n 64)).run Try.prog (X.alloc (.cells (row (Vb.txt n k h) n) 79)) = .ok (.string (S (Vb.txt n k h))) (X.alloc (.cells (row (Vb.txt n k h) n) 79)) := by
  have := run_convert_bytes_back (P := Try.prog) (X.alloc (.cells (row (Vb.txt n k h) n) 79)) 22 9 5 ⟨b, 0, none⟩ 64 (Vb.txt n k h) (by kernel_rfl) (by kernel_rfl) (by kernel_rfl) (by
    intro j hj
    rw [Vb.txt_len] at hj
    subst hb
    rw [Addr.add_lit, World.cell?_alloc_new, Nat.zero_add]
    exact row_get _ _ _ hj (by rw [Vb.txt_len]; exact hj))
  rw [Vb.txt_len] at this
  exact this
set_option maxRecDepth 100000 in
set_option maxHeartbeats 400000 in
theorem iText (n : Nat) (k h : BitVec 64) (hn : n ≤ 64) (w : World) :
    Calls Try.prog 54 #[V n k h] w fun e w' => e = .returned (.string (S (Vb.txt n k h))) ∧ Below w.heap.size w w' := by
  unfold V
  go_enter Try.func54, Try.ntmps54
  go_wp2
  go_loopw [5] (fun i W => ∃ j : Nat, j ≤ n ∧ i = .int .i64 j ∧ W = ((w.alloc (.cells #[.int .i64 n, .int .u64 (U k), .int .u64 (U h)] 60)).alloc (.cells #[.int .u8 120, .int .u8 122, .int .u8 48, .int .u8 49] 97)).alloc (.cells (row (Vb.txt n k h) j) 79)) (fun i _ => n - (intOf i).toNat)
  case atStart => exact ⟨0, Nat.zero_le _, rfl, rfl⟩
  case round =>
    obtain ⟨j, hj, rfl, rfl⟩ := hrel
    by_cases hlt : j < n
    · have st := row_step (Vb.txt n k h) j (by rw [Vb.txt_len]; exact hlt) (by omega)
      rw [txt_get n k h j hlt] at st
      have hx := idx_eq k h (n - 1 - j) (by omega)
      have hsz : (row (Vb.txt n k h) j).size = 64 := by unfold row; simp [Vb.txt_len]; omega
      obtain ⟨x0, hx0⟩ : ∃ x, (row (Vb.txt n k h) j)[j]? = some x := ⟨_, Array.getElem?_eq_getElem (by omega)⟩
      generalize row (Vb.txt n k h) j = R at *
      have b1 : (j : Int) < 64 := by omega
      clear hsz
      cases hk : k.getLsbD (n - 1 - j) <;> cases hh : h.getLsbD (n - 1 - j) <;> rw [hk, hh] at st hx <;> simp only [Bool.false_eq_true, if_true, if_false] at hx <;> have ST := hide st <;> clear st hk hh <;> go_wp2
      all_goals exact ⟨⟨j + 1, by omega, by go_num, row_alloc (unhide ST)⟩, by simp [intOf]; omega⟩
    · have : j = n := by omega
      subst this
      have b2 : (j : Int) ≤ 64 := by omega
      have hcv := text_back j k h ((w.alloc (.cells #[.int .i64 j, .int .u64 (U k), .int .u64 (U h)] 60)).alloc (.cells #[.int .u8 120, .int .u8 122, .int .u8 48, .int .u8 49] 97)) (w.heap.size + 1 + 1) (by simp)
      generalize row (Vb.txt j k h) j = R at *
      go_wp2
      go_ret
      exact ⟨rfl, bal (bal (bal (brf _) _) _) _⟩
end Go.Proofs.Ytmbllgblbdfobaa
namespace Go.Proofs.Ytmbllgblbdfobaa
open Go.RowKit
theorem valid_bits {c : UInt8} (h : Vb.isV c = true) : (Vb.knB c && Vb.whB c) = Vb.oneB c ∧ (Vb.knB c && !Vb.whB c) = zeroB c := by
  unfold Vb.isV at h
  simp only [Bool.or_eq_true, beq_iff_eq] at h
  rcases h with ((rfl | rfl) | rfl) | rfl <;> exact ⟨rfl, rfl⟩
theorem one_bit {l : List UInt8} (hv : l.all Vb.isV = true) (i : Nat) (h64 : i < 64) : ((Vb.kn l).getLsbD i && (Vb.wh l).getLsbD i) = ((Vb.rat l i).map Vb.oneB).getD false := by
  rw [Vb.kn, Vb.wh, Vb.getLsbD_word, Vb.getLsbD_word]
  by_cases hi : i < l.length
  · obtain ⟨c, hc, hm⟩ := Vb.rat_some hi
    rw [hc]; simp only [h64, decide_true, Bool.true_and, Option.map_some, Option.getD_some]
    exact (valid_bits (List.all_eq_true.1 hv c hm)).1
  · rw [Vb.rat_none (by omega)]; simp
theorem zero_bit {l : List UInt8} (hv : l.all Vb.isV = true) (i : Nat) (h64 : i < 64) : ((Vb.kn l).getLsbD i && !(Vb.wh l).getLsbD i) = ((Vb.rat l i).map zeroB).getD false := by
  rw [Vb.kn, Vb.wh, Vb.getLsbD_word, Vb.getLsbD_word]
  by_cases hi : i < l.length
  · obtain ⟨c, hc, hm⟩ := Vb.rat_some hi
    rw [hc]; simp only [h64, decide_true, Bool.true_and, Option.map_some, Option.getD_some]
    exact (valid_bits (List.all_eq_true.1 hv c hm)).2
  · rw [Vb.rat_none (by omega)]; simp
theorem ones_ne {l : List UInt8} (hv : l.all Vb.isV = true) (h2 : l.length ≤ 64) : (Vb.kn l &&& Vb.wh l ≠ 0#64) ↔ l.any Vb.oneB = true := by
  constructor
  · intro h
    rw [← Bool.not_eq_false]
    intro hn
    apply h
    apply BitVec.eq_of_getLsbD_eq
    intro i hi
    rw [BitVec.getLsbD_and, one_bit hv i hi]
    by_cases hl : i < l.length
    · obtain ⟨c, hc, hm⟩ := Vb.rat_some hl
      rw [hc]
      have := List.any_eq_false.1 hn c hm
      simp [this]
    · rw [Vb.rat_none (by omega)]; simp
  · intro h e
    obtain ⟨c, hm, hc⟩ := List.any_eq_true.1 h
    obtain ⟨j, hj, rfl⟩ := List.getElem_of_mem hm
    have e1 : (Vb.kn l &&& Vb.wh l).getLsbD (l.length - 1 - j) = false := by rw [e]; simp
    rw [BitVec.getLsbD_and, one_bit hv _ (by omega)] at e1
    unfold Vb.rat at e1
    rw [List.getElem?_reverse (by omega), show l.length - 1 - (l.length - 1 - j) = j by omega, List.getElem?_eq_getElem hj] at e1
    simp [hc] at e1
theorem tru_truth {l : List UInt8} (hv : l.all Vb.isV = true) (h2 : l.length ≤ 64) : tru l.length (Vb.kn l) (Vb.wh l) = truthL l := by
  unfold tru truthL
  by_cases h1 : l.any Vb.oneB = true
  · rw [if_pos ((ones_ne hv h2).2 h1), if_pos h1]
  · rw [if_neg (fun h => h1 ((ones_ne hv h2).1 h)), if_neg h1]
    have hall : (Vb.kn l = Vb.ones l.length) ↔ l.all (fun c => c == 48) = true := by
      rw [Vb.kn_ones h2, List.all_eq_true, List.all_eq_true]
      rw [List.any_eq_true] at h1
      constructor
      · intro h c hc
        have := h c hc
        unfold Vb.knB at this
        simp only [Bool.or_eq_true] at this
        rcases this with h | h
        · exact h
        · exact absurd ⟨c, hc, h⟩ h1
      · intro h c hc; unfold Vb.knB; rw [h c hc]; rfl
    by_cases h3 : l.all (fun c => c == 48) = true
    · rw [if_pos (hall.2 h3), if_pos h3]
    · rw [if_neg (fun h => h3 (hall.1 h)), if_neg h3]
theorem rat_zip (f : UInt8 → UInt8 → UInt8) {a b : List UInt8} (h : a.length = b.length) (i : Nat) : Vb.rat (List.zipWith f a b) i = match Vb.rat a i, Vb.rat b i with | some x, some y => some (f x y) | _, _ => none := by
  unfold Vb.rat
  rw [List.reverse_zipWith h, List.getElem?_zipWith]; cases a.reverse[i]? <;> cases b.reverse[i]? <;> rfl
/-- A text made of two, letter by letter, whose words are told bit by bit. -/
theorem txt_zip (f : UInt8 → UInt8 → UInt8) {a b : List UInt8} (hl : a.length = b.length) (K H : BitVec 64)
    (h : ∀ i x y, i < a.length → Vb.rat a i = some x → Vb.rat b i = some y → Vb.letter (K.getLsbD i) (H.getLsbD i) = f x y) : Vb.txt a.length K H = List.zipWith f a b := by
  apply Vb.rat_ext
  intro i
  rw [Vb.rat_txt, rat_zip f hl]
  by_cases hi : i < a.length
  · obtain ⟨x, hx, _⟩ := Vb.rat_some hi
    obtain ⟨y, hy, _⟩ := Vb.rat_some (l := b) (i := i) (by omega)
    rw [if_pos hi, hx, hy, h i x y hi hx hy]
  · rw [if_neg hi, Vb.rat_none (by omega)]
theorem rat_mem {l : List UInt8} {i : Nat} {x : UInt8} (h : Vb.rat l i = some x) : x ∈ l := by
  unfold Vb.rat at h
  have := List.mem_of_getElem? h
  simpa using this
theorem bits_at {l : List UInt8} {i : Nat} {x : UInt8} (h : Vb.rat l i = some x) (h64 : i < 64) : (Vb.kn l).getLsbD i = Vb.knB x ∧ (Vb.wh l).getLsbD i = Vb.whB x := by
  rw [Vb.kn, Vb.wh, Vb.getLsbD_word, Vb.getLsbD_word, h]; simp [h64]
theorem four {c : UInt8} (h : Vb.isV c = true) : c = 48 ∨ c = 49 ∨ c = 120 ∨ c = 122 := by
  unfold Vb.isV at h
  simp only [Bool.or_eq_true, beq_iff_eq] at h
  rcases h with ((h | h) | h) | h
  · exact .inl h
  · exact .inr (.inl h)
  · exact .inr (.inr (.inl h))
  · exact .inr (.inr (.inr h))
theorem mix_txt {a b : List UInt8} (va : a.all Vb.isV = true) (vb : b.all Vb.isV = true) (hl : a.length = b.length) (h2 : a.length ≤ 64) :
    Vb.txt a.length (Vb.kn a &&& ~~~Vb.wh a &&& (Vb.kn b &&& ~~~Vb.wh b) ||| (Vb.kn a &&& Vb.wh a &&& (Vb.kn b &&& Vb.wh b))) (Vb.kn a &&& Vb.wh a &&& (Vb.kn b &&& Vb.wh b)) = List.zipWith mixB a b := by
  apply txt_zip mixB hl
  intro i x y hi hx hy
  have h64 : i < 64 := by omega
  obtain ⟨k1, w1⟩ := bits_at hx h64
  obtain ⟨k2, w2⟩ := bits_at hy h64
  simp only [BitVec.getLsbD_or, BitVec.getLsbD_and, BitVec.getLsbD_not, k1, k2, w1, w2, h64, decide_true, Bool.true_and]
  rcases four (List.all_eq_true.1 va x (rat_mem hx)) with rfl | rfl | rfl | rfl <;> rcases four (List.all_eq_true.1 vb y (rat_mem hy)) with rfl | rfl | rfl | rfl <;> rfl
set_option maxHeartbeats 400000 in
theorem iChoose (c a b : ByteArray) (w : World) (hc : c.size ≤ maxLen) (ha : a.size ≤ maxLen) (hb : b.size ≤ maxLen) (vc : Vb.okV (L c) = true) (va : Vb.okV (L a) = true) (vb : Vb.okV (L b) = true) (hl : a.size = b.size) :
    Calls Try.prog 29 #[.string c, .string a, .string b] w fun e w' => e = .returned (.string (S (choL (L c) (L a) (L b)))) ∧ Below w.heap.size w w' := by
  obtain ⟨c1, c2, c3⟩ := (okV_iff c).1 vc
  obtain ⟨a1, a2, a3⟩ := (okV_iff a).1 va
  obtain ⟨b1, b2, b3⟩ := (okV_iff b).1 vb
  have hne : ((a.size : Int) != (b.size : Int)) = false := by simp [hl]
  have VC := hide vc
  have VA := hide va
  have VBB := hide vb
  have ht : tru c.size (Vb.kn (L c)) (Vb.wh (L c)) = truthL (L c) := by
    have := tru_truth c3 (by rw [L_len]; exact c2)
    rw [L_len] at this; exact this
  have hta : Vb.txt a.size (Vb.kn (L a)) (Vb.wh (L a)) = L a := by
    have := Vb.txt_of a3 (by rw [L_len]; exact a2)
    rw [L_len] at this; exact this
  have htb : Vb.txt b.size (Vb.kn (L b)) (Vb.wh (L b)) = L b := by
    have := Vb.txt_of b3 (by rw [L_len]; exact b2)
    rw [L_len] at this; exact this
  have htm := mix_txt a3 b3 (by rw [L_len, L_len]; exact hl) (by rw [L_len]; exact a2)
  rw [L_len] at htm
  have HT := hide ht
  have HTA := hide hta
  have HTB := hide htb
  have HTM := hide htm
  clear vc va vb hl c3 a3 b3 ht hta htb htm
  generalize hC1 : Vb.kn (L c) = C1 at *
  generalize hC2 : Vb.wh (L c) = C2 at *
  generalize hA1 : Vb.kn (L a) = A1 at *
  generalize hA2 : Vb.wh (L a) = A2 at *
  generalize hB1 : Vb.kn (L b) = B1 at *
  generalize hB2 : Vb.wh (L b) = B2 at *
  have HC1 := hide hC1
  have HC2 := hide hC2
  have HA1 := hide hA1
  have HA2 := hide hA2
  have HB1 := hide hB1
  have HB2 := hide hB2
  clear hC1 hC2 hA1 hA2 hB1 hB2
  go_enter Try.func29, Try.ntmps29
  go_wp2_with fail
  refine (iVecOf c _ hc (unhide VC)).mono ?_
  rw [unhide HC1, unhide HC2]
  rintro e w1 ⟨rfl, hb1⟩
  unfold V
  go_wp2_with fail
  refine (iTwoOf a b _ ha hb (unhide VA) (unhide VBB)).mono ?_
  rw [unhide HA1, unhide HA2, unhide HB1, unhide HB2]
  rintro e w2 ⟨rfl, hb2⟩
  obtain ⟨u0, u1, u2⟩ : VB w1.heap.size c.size C1 C2 w2 := VB_later hb2 (VB_new w1)
  have B2' : Below w.heap.size w w2 := btr (bal hb1 _) hb2
  have hz1 : w1.heap.size < w2.heap.size := by have := hb2.size; simp at this; omega
  have hp1 : w1.heap.size < w2.heap.size + 1 := by omega
  unfold V
  go_wp2_with fail
  have ht := truthL_cases (L c)
  generalize hTT : truthL (L c) = t at *
  have HTT := hide hTT
  clear hTT
  rcases ht with rfl | rfl | rfl
  · refine (iChoose1 _ _ _ _ _ _ _ _ _ c2 _ (by rw [unhide HT])).mono ?_
    rintro e w3 ⟨rfl, hb3⟩
    unfold V
    go_wp2_with fail
    refine (iText _ _ _ a2 _).mono ?_
    rw [unhide HTA]
    rintro e w4 ⟨rfl, hb4⟩
    go_wp2
    go_ret
    exact ⟨by rw [choL, unhide HTT, if_pos rfl]; rfl, btr (btr (bal (bal B2' _) _) hb3) hb4⟩
  · refine (iChoose0 _ _ _ _ _ _ _ _ _ c2 _ (by rw [unhide HT])).mono ?_
    rintro e w3 ⟨rfl, hb3⟩
    unfold V
    go_wp2_with fail
    refine (iText _ _ _ b2 _).mono ?_
    rw [unhide HTB]
    rintro e w4 ⟨rfl, hb4⟩
    go_wp2
    go_ret
    exact ⟨by rw [choL, unhide HTT, if_neg (by decide), if_pos rfl]; rfl, btr (btr (bal (bal B2' _) _) hb3) hb4⟩
  · refine (iChoosex _ _ _ _ _ _ _ _ _ c2 _ (by rw [unhide HT])).mono ?_
    rintro e w3 ⟨rfl, hb3⟩
    unfold V
    go_wp2_with fail
    refine (iText _ _ _ a2 _).mono ?_
    rw [unhide HTM]
    rintro e w4 ⟨rfl, hb4⟩
    go_wp2
    go_ret
    exact ⟨by rw [choL, unhide HTT, if_neg (by decide), if_neg (by decide)]; rfl, btr (btr (bal (bal B2' _) _) hb3) hb4⟩
set_option maxHeartbeats 400000 in
theorem iChoose_no (c a b : ByteArray) (w : World) (hc : c.size ≤ maxLen) (ha : a.size ≤ maxLen) (hb : b.size ≤ maxLen) (h : (Vb.okV (L c) && (Vb.okV (L a) && Vb.okV (L b) && decide (a.size = b.size))) = false) :
    Calls Try.prog 29 #[.string c, .string a, .string b] w fun e w' => e = .returned (.string (S [])) ∧ Below w.heap.size w w' := by
  cases hab : (Vb.okV (L a) && Vb.okV (L b))
  · have HAB := hide hab
    clear h hab
    go_enter Try.func29, Try.ntmps29
    go_wp2_with fail
    refine (iVecAny c _ hc).mono ?_
    rintro e w1 ⟨⟨n, k, h, rfl⟩, hb1⟩
    generalize Vb.okV (L c) = oc
    unfold V
    go_wp2_with fail
    refine (iTwoOf_no a b _ ha hb (unhide HAB)).mono ?_
    rintro e w2 ⟨⟨na, A1, A2, nb, B1, B2, rfl⟩, hb2⟩
    unfold V
    cases oc
    · go_wp2
      go_ret
      exact ⟨rfl, bal (bal (btr (bal hb1 _) hb2) _) _⟩
    · go_wp2
      go_ret
      exact ⟨rfl, bal (bal (btr (bal hb1 _) hb2) _) _⟩
  · rw [hab, Bool.true_and] at h
    rw [Bool.and_eq_true] at hab
    have HAB := hide hab
    clear hab
    cases hoc : Vb.okV (L c)
    · have HC := hide hoc
      clear h hoc
      go_enter Try.func29, Try.ntmps29
      go_wp2_with fail
      refine (iVecOf_no c _ hc (unhide HC)).mono ?_
      rintro e w1 ⟨rfl, hb1⟩
      unfold V
      go_wp2_with fail
      refine (iTwoOf a b _ ha hb (unhide HAB).1 (unhide HAB).2).mono ?_
      rintro e w2 ⟨rfl, hb2⟩
      unfold V
      go_wp2
      go_ret
      exact ⟨rfl, bal (bal (btr (bal hb1 _) hb2) _) _⟩
    · rw [hoc, Bool.true_and] at h
      have hne : ((a.size : Int) != (b.size : Int)) = true := by simp at h; simp; omega
      have HC := hide hoc
      clear h hoc
      go_enter Try.func29, Try.ntmps29
      go_wp2_with fail
      refine (iVecOf c _ hc (unhide HC)).mono ?_
      rintro e w1 ⟨rfl, hb1⟩
      unfold V
      go_wp2_with fail
      refine (iTwoOf a b _ ha hb (unhide HAB).1 (unhide HAB).2).mono ?_
      rintro e w2 ⟨rfl, hb2⟩
      unfold V
      go_wp2
      go_ret
      exact ⟨rfl, bal (bal (btr (bal hb1 _) hb2) _) _⟩
set_option maxHeartbeats 400000 in
theorem lChoose (c a b : ByteArray) (w : World) (hc : c.size ≤ maxLen) (ha : a.size ≤ maxLen) (hb : b.size ≤ maxLen) :
    Calls Try.prog 13 #[.string c, .string a, .string b] w fun e w' => e = .returned (.bool true) ∧ Below w.heap.size w w' := by
  by_cases h1 : 1048576 < (c.size : Int)
  · go_enter Try.func13, Try.ntmps13
    go_wp2
    go_ret
    exact ⟨rfl, brf _⟩
  by_cases h2 : 1048576 < (a.size : Int)
  · go_enter Try.func13, Try.ntmps13
    go_wp2
    go_ret
    exact ⟨rfl, brf _⟩
  by_cases h3 : 1048576 < (b.size : Int)
  · go_enter Try.func13, Try.ntmps13
    go_wp2
    go_ret
    exact ⟨rfl, brf _⟩
  cases hg : (Vb.okV (L c) && (Vb.okV (L a) && Vb.okV (L b) && decide (a.size = b.size)))
  · have HG := hide hg
    clear hg
    go_enter Try.func13, Try.ntmps13
    go_wp2_with fail
    refine (sChoose_no c a b _ hc ha hb (unhide HG)).mono ?_
    rintro e w1 ⟨rfl, hb1⟩
    go_wp2_with fail
    refine (iChoose_no c a b _ hc ha hb (unhide HG)).mono ?_
    rintro e w2 ⟨rfl, hb2⟩
    go_wp2
    go_ret
    exact ⟨rfl, btr hb1 hb2⟩
  · rw [Bool.and_eq_true, Bool.and_eq_true, Bool.and_eq_true, decide_eq_true_eq] at hg
    have HG := hide hg
    clear hg
    go_enter Try.func13, Try.ntmps13
    go_wp2_with fail
    refine (sChoose c a b _ hc ha hb (unhide HG).1 (unhide HG).2.1.1 (unhide HG).2.1.2 (unhide HG).2.2).mono ?_
    rintro e w1 ⟨rfl, hb1⟩
    generalize hR : S (choL (L c) (L a) (L b)) = R
    have HR := hide hR
    clear hR
    go_wp2_with fail
    refine (iChoose c a b _ hc ha hb (unhide HG).1 (unhide HG).2.1.1 (unhide HG).2.1.2 (unhide HG).2.2).mono ?_
    rintro e w2 ⟨rfl, hb2⟩
    rw [unhide HR]
    go_wp2
    go_ret
    exact ⟨rfl, btr hb1 hb2⟩
end Go.Proofs.Ytmbllgblbdfobaa
namespace Go.Proofs.Ytmbllgblbdfobaa
open Go.RowKit
theorem w64_in (n : Int) (h : -9223372036854775808 ≤ n ∧ n ≤ 9223372036854775807) : wrap64 n = n := by unfold wrap64; omega
theorem head_ge {l : List UInt8} (h : Vb.oneB (l.headD 0) = true) : 2 ^ (l.length - 1) ≤ Vb.num l := by
  cases l with
  | nil => cases h
  | cons c t =>
    rw [Vb.num_cons, show Vb.oneB c = true from h, List.length_cons, Nat.add_sub_cancel]; simp
theorem head_lt {l : List UInt8} (h : Vb.oneB (l.headD 0) = false) : Vb.num l < 2 ^ (l.length - 1) := by
  cases l with
  | nil => simp [Vb.num]
  | cons c t =>
    rw [Vb.num_cons, show Vb.oneB c = false from h, List.length_cons, Nat.add_sub_cancel]; simpa using Vb.num_lt t
theorem sgn_num {l : List UInt8} (hk : l.all Vb.knB = true) (h1 : 1 ≤ l.length) (h2 : l.length ≤ 64) : sgn l.length (Vb.wh l) = intL true l := by
  have hm := Vb.num_lt l
  have hw := Vb.wh_toNat hk h2
  have e0 : (2 : Nat) ^ l.length = 2 * 2 ^ (l.length - 1) := by
    rw [show l.length = (l.length - 1) + 1 by omega, Nat.pow_succ, Nat.mul_comm]; simp
  have e1 : (2 : Nat) ^ 64 = 2 ^ l.length * 2 ^ (64 - l.length) := by rw [← Nat.pow_add]; congr 1; omega
  have hU : U (Vb.wh l <<< (64 - l.length)) = (Vb.num l : Int) * 2 ^ (64 - l.length) := by
    unfold U
    rw [BitVec.toNat_shiftLeft, hw, Nat.shiftLeft_eq, Nat.mod_eq_of_lt]
    · rw [Int.natCast_mul, Int.natCast_pow]; rfl
    · rw [e1]; exact Nat.mul_lt_mul_of_pos_right hm (Nat.two_pow_pos _)
  have hpos : 0 < (2 : Int) ^ (64 - l.length) := Int.pow_pos (by omega)
  have c2 : ((2 ^ l.length : Nat) : Int) = (2 : Int) ^ l.length := by rw [Int.natCast_pow]; rfl
  have c3 : (2 : Int) ^ l.length * 2 ^ (64 - l.length) = 18446744073709551616 := by
    rw [← Int.pow_add, show l.length + (64 - l.length) = 64 by omega]; rfl
  unfold sgn
  rw [hU]
  have hz : (0 : Int) ≤ Vb.num l := by omega
  generalize hQ : (2 : Int) ^ (64 - l.length) = Q at *
  generalize hA : (2 : Int) ^ l.length = A at *
  have hA1 : ((2 ^ (l.length - 1) : Nat) : Int) * 2 = A := by rw [← c2, e0]; omega
  have hAQ : ((2 ^ (l.length - 1) : Nat) : Int) * Q = 9223372036854775808 := by
    have : ((2 ^ (l.length - 1) : Nat) : Int) * Q * 2 = 18446744073709551616 := by rw [Int.mul_right_comm, hA1]; exact c3
    omega
  generalize hB : (2 ^ (l.length - 1) : Nat) = B at *
  cases ho : Vb.oneB (l.headD 0)
  · have hlt : Vb.num l < B := by rw [← hB]; exact head_lt ho
    rw [intL_no (by rw [ho]; rfl)]
    have h4 : (Vb.num l : Int) * Q < 9223372036854775808 := by
      rw [← hAQ]; exact Int.mul_lt_mul_of_pos_right (by omega) hpos
    have h5 : 0 ≤ (Vb.num l : Int) * Q := Int.mul_nonneg hz (by omega)
    have h6 : (Vb.num l : Int) ≤ (Vb.num l : Int) * Q := by
      have := Int.mul_le_mul_of_nonneg_left (show (1 : Int) ≤ Q by omega) hz
      omega
    rw [w64_in _ (by omega), w64_in _ (by omega), Int.mul_ediv_cancel _ (by omega)]
  · have hge : B ≤ Vb.num l := by rw [← hB]; exact head_ge ho
    rw [intL_yes ho, hA]
    have h4 : 9223372036854775808 ≤ (Vb.num l : Int) * Q := by
      rw [← hAQ]; exact Int.mul_le_mul_of_nonneg_right (by omega) (by omega)
    have h5 : (Vb.num l : Int) * Q < 18446744073709551616 := by
      rw [← c3]; exact Int.mul_lt_mul_of_pos_right (by omega) hpos
    have h7 : wrap64 ((Vb.num l : Int) * Q) = ((Vb.num l : Int) - A) * Q := by
      rw [Int.sub_mul, c3]; unfold wrap64; omega
    have h8 : (B : Int) ≤ (B : Int) * Q := by
      have := Int.mul_le_mul_of_nonneg_left (show (1 : Int) ≤ Q by omega) (show (0 : Int) ≤ B by omega)
      omega
    rw [h7, Int.mul_ediv_cancel _ (by omega), w64_in _ (by omega)]
theorem wh_int {l : List UInt8} (hk : l.all Vb.knB = true) (h2 : l.length ≤ 64) : wrap64 (U (Vb.wh l)) = intL false l := by
  rw [intL_no rfl]; unfold U; rw [Vb.wh_toNat hk h2]
set_option maxHeartbeats 400000 in
theorem iIntOf (s : ByteArray) (b : Bool) (w : World) (hs : s.size ≤ maxLen) (hv : Vb.okV (L s) = true) (hk : (L s).all Vb.knB = true) :
    Calls Try.prog 18 #[.string s, .bool b] w fun e w' => e = .returned (.tuple #[.int .i64 (intL b (L s)), .bool true]) ∧ Below w.heap.size w w' := by
  obtain ⟨h1, h2, h3⟩ := (okV_iff s).1 hv
  have HV := hide hv
  have HS : Hid (sgn s.size (Vb.wh (L s)) = intL true (L s)) := by
    have := sgn_num hk (by rw [L_len]; exact h1) (by rw [L_len]; exact h2)
    rw [L_len] at this; exact this
  have HU : Hid (wrap64 (U (Vb.wh (L s))) = intL false (L s)) := wh_int hk (by rw [L_len]; exact h2)
  have HO : Hid ((Vb.kn (L s) == Vb.ones s.size) = true) := by
    have := (Vb.kn_ones (l := L s) (by rw [L_len]; exact h2)).2 hk
    rw [L_len] at this; show _ = true; rw [this]; exact beq_self_eq_true _
  clear hv hk h3
  generalize hK : Vb.kn (L s) = K at *
  generalize hH : Vb.wh (L s) = H at *
  have HK := hide hK
  have HH := hide hH
  clear hK hH
  cases b
  · go_enter Try.func18, Try.ntmps18
    go_wp2_with fail
    refine (iVecOf s _ hs (unhide HV)).mono ?_
    rintro e w1 ⟨rfl, hb⟩
    rw [unhide HK, unhide HH]
    unfold V
    go_wp2_with fail
    refine (iIsKnown _ _ _ h2 _).mono ?_
    rw [unhide HO]
    rintro e w2 ⟨rfl, hb2⟩
    obtain ⟨hc, hf⟩ := bcell hb2
    go_wp2
    go_ret2
    refine ⟨ret_2 (unhide HU), ?_⟩
    repeat first | exact brf _ | refine bdr ?_ | refine bst ?_ (by first | exact Nat.le_refl _ | (simp; done) | (simp; omega)) _ | refine btr ?_ hb2 | refine btr ?_ hb | refine bal ?_ _
  · go_enter Try.func18, Try.ntmps18
    go_wp2_with fail
    refine (iVecOf s _ hs (unhide HV)).mono ?_
    rintro e w1 ⟨rfl, hb⟩
    rw [unhide HK, unhide HH]
    unfold V
    go_wp2_with fail
    refine (iIsKnown _ _ _ h2 _).mono ?_
    rw [unhide HO]
    rintro e w2 ⟨rfl, hb2⟩
    obtain ⟨hc, hf⟩ := bcell hb2
    go_wp2_with fail
    refine (iSigned _ _ _ h2 _).mono ?_
    rintro e w3 ⟨rfl, hb3⟩
    go_wp2
    go_ret2
    refine ⟨ret_2 (unhide HS), ?_⟩
    repeat first | exact brf _ | refine bdr ?_ | refine bst ?_ (by first | exact Nat.le_refl _ | (simp; done) | (simp; omega)) _ | refine btr ?_ hb3 | refine btr ?_ hb2 | refine btr ?_ hb | refine bal ?_ _
set_option maxHeartbeats 400000 in
theorem iIntOf_no (s : ByteArray) (b : Bool) (w : World) (hs : s.size ≤ maxLen) (h : (Vb.okV (L s) && (L s).all Vb.knB) = false) :
    Calls Try.prog 18 #[.string s, .bool b] w fun e w' => e = .returned (.tuple #[.int .i64 0, .bool false]) ∧ Below w.heap.size w w' := by
  cases hv : Vb.okV (L s)
  · have HV := hide hv
    clear hv h
    go_enter Try.func18, Try.ntmps18
    go_wp2_with fail
    refine (iVecOf_no s _ hs (unhide HV)).mono ?_
    rintro e w1 ⟨rfl, hb⟩
    unfold V
    go_wp2
    go_ret2
    refine ⟨rfl, ?_⟩
    repeat first | exact brf _ | refine bdr ?_ | refine bst ?_ (by first | exact Nat.le_refl _ | (simp; done) | (simp; omega)) _ | refine btr ?_ hb | refine bal ?_ _
  · rw [hv, Bool.true_and] at h
    obtain ⟨h1, h2, h3⟩ := (okV_iff s).1 hv
    have HO : Hid ((Vb.kn (L s) == Vb.ones s.size) = false) := by
      have := Vb.kn_ones (l := L s) (by rw [L_len]; exact h2)
      rw [L_len, h] at this
      show _ = false
      rw [beq_eq_false_iff_ne]; intro e; cases this.1 e
    have HV := hide hv
    clear hv h h3
    generalize hK : Vb.kn (L s) = K at *
    generalize hH : Vb.wh (L s) = H at *
    have HK := hide hK
    have HH := hide hH
    clear hK hH
    go_enter Try.func18, Try.ntmps18
    go_wp2_with fail
    refine (iVecOf s _ hs (unhide HV)).mono ?_
    rintro e w1 ⟨rfl, hb⟩
    rw [unhide HK, unhide HH]
    unfold V
    go_wp2_with fail
    refine (iIsKnown _ _ _ h2 _).mono ?_
    rw [unhide HO]
    rintro e w2 ⟨rfl, hb2⟩
    go_wp2
    go_ret2
    refine ⟨rfl, ?_⟩
    repeat first | exact brf _ | refine bdr ?_ | refine bst ?_ (by first | exact Nat.le_refl _ | (simp; done) | (simp; omega)) _ | refine btr ?_ hb2 | refine btr ?_ hb | refine bal ?_ _
set_option maxHeartbeats 400000 in
theorem lIntOf (s : ByteArray) (b : Bool) (w : World) (hs : s.size ≤ maxLen) :
    Calls Try.prog 8 #[.string s, .bool b] w fun e w' => e = .returned (.bool true) ∧ Below w.heap.size w w' := by
  by_cases h : 1048576 < (s.size : Int)
  · go_enter Try.func8, Try.ntmps8
    go_wp2
    go_ret
    exact ⟨rfl, brf _⟩
  · cases hg : (Vb.okV (L s) && (L s).all Vb.knB)
    · have HG := hide hg
      clear hg
      go_enter Try.func8, Try.ntmps8
      go_wp2_with fail
      refine (sIntOf_no s b _ hs (unhide HG)).mono ?_
      rintro e w' ⟨rfl, rfl⟩
      go_wp2_with fail
      refine (iIntOf_no s b _ hs (unhide HG)).mono ?_
      rintro e w' ⟨rfl, hb⟩
      go_wp2
      go_ret
      exact ⟨rfl, hb⟩
    · rw [Bool.and_eq_true] at hg
      have HG := hide hg
      clear hg
      go_enter Try.func8, Try.ntmps8
      go_wp2_with fail
      refine (sIntOf s b _ hs (unhide HG).1 (unhide HG).2).mono ?_
      rintro e w' ⟨rfl, rfl⟩
      generalize hI : intL b (L s) = I
      have HI := hide hI
      clear hI
      go_wp2_with fail
      refine (iIntOf s b _ hs (unhide HG).1 (unhide HG).2).mono ?_
      rintro e w' ⟨rfl, hb⟩
      rw [unhide HI]
      go_wp2
      go_ret
      exact ⟨rfl, hb⟩
end Go.Proofs.Ytmbllgblbdfobaa
namespace Go.Proofs.Ytmbllgblbdfobaa
open Go.RowKit
/-- The letter of a bit. -/
def bl (b : Bool) : UInt8 := if b then 49 else 48
theorem bl_one (b : Bool) : Vb.oneB (bl b) = b := by cases b <;> rfl
theorem kn_bl {c : UInt8} (h : Vb.knB c = true) : c = bl (Vb.oneB c) := Vb.known_bit h
theorem add_sum (a b x : Bool) : xorB (xorB (bl a) (bl b)) (bl x) = bl (decide ((a.toNat + b.toNat + x.toNat) % 2 = 1)) := by cases a <;> cases b <;> cases x <;> rfl
theorem add_carry (a b x : Bool) : orB (andB (bl a) (bl b)) (andB (bl x) (orB (bl a) (bl b))) = bl (decide ((a.toNat + b.toNat + x.toNat) / 2 = 1)) := by cases a <;> cases b <;> cases x <;> rfl
theorem bit_le (a : Bool) : a.toNat ≤ 1 := by cases a <;> simp
theorem nTxt_step (j v d : Nat) (x : Bool) (hx : v / 2 ^ j = x.toNat) (a b : Bool) (hd : d = (a.toNat + b.toNat) * 2 ^ j + v) :
    Vb.nTxt (j + 1) d = bl (decide ((a.toNat + b.toNat + x.toNat) % 2 = 1)) :: Vb.nTxt j v ∧ d / 2 ^ (j + 1) = (decide ((a.toNat + b.toNat + x.toNat) / 2 = 1)).toNat := by
  have hp : 0 < 2 ^ j := Nat.two_pow_pos j
  have hq : d / 2 ^ j = a.toNat + b.toNat + x.toNat := by
    rw [hd, Nat.add_comm, Nat.add_mul_div_right _ _ hp, hx]; omega
  constructor
  · rw [Vb.nTxt, Nat.testBit_eq_decide_div_mod_eq, hq]
    have e : Vb.nTxt j d = Vb.nTxt j v := Vb.nTxt_congr (by rw [hd, Nat.add_comm, Nat.add_mul_mod_self_right])
    rw [e]; rfl
  · rw [Nat.pow_succ, ← Nat.div_div_eq_div_mul, hq]
    have := bit_le a; have := bit_le b; have := bit_le x
    have h : (a.toNat + b.toNat + x.toNat) / 2 = 0 ∨ (a.toNat + b.toNat + x.toNat) / 2 = 1 := by omega
    rcases h with h | h <;> simp [h]
set_option maxHeartbeats 400000 in
theorem sAdd (a b : ByteArray) (c : Bool) (w : World) (ha : a.size ≤ 65) (hl : a.size = b.size) (ka : (L a).all Vb.knB = true) (kb : (L b).all Vb.knB = true) :
    Calls Try.prog 68 #[.string a, .string b, .int .u8 ((bl c).toNat : Int)] w fun e w' => e = .returned (.string (S (Vb.nTxt a.size (Vb.num (L a) + Vb.num (L b) + c.toNat)))) ∧ Below w.heap.size w w' := by
  have HL := hide hl
  have hb : b.size ≤ 65 := by omega
  have KA := hide ka
  have KB := hide kb
  clear hl ka kb
  go_enter Try.func68, Try.ntmps68
  go_wp2
  go_loopw [2, 7, 8] (fun x o i wr => ∃ m : Nat, m ≤ a.size ∧ i = .int .i64 ((m : Int) - 1) ∧ (∃ X : Bool, x = .int .u8 ((bl X).toNat : Int) ∧ (Vb.num ((L a).drop m) + Vb.num ((L b).drop m) + c.toNat) / 2 ^ (a.size - m) = X.toNat) ∧ o = .string (S (Vb.nTxt (a.size - m) (Vb.num ((L a).drop m) + Vb.num ((L b).drop m) + c.toNat))) ∧ Below w.heap.size w wr) (fun _ _ i _ => (intOf i + 1).toNat)
  case atStart =>
    refine ⟨a.size, Nat.le_refl _, rfl, ⟨c, rfl, ?_⟩, ?_, brf _⟩
    · rw [List.drop_of_length_le (by rw [L_len]; exact Nat.le_refl _), List.drop_of_length_le (by rw [L_len, ← unhide HL]; exact Nat.le_refl _)]; simp [Vb.num]
    · rw [Nat.sub_self]; rfl
  case round =>
    obtain ⟨m, hm, rfl, ⟨X, rfl, hX⟩, rfl, hbel⟩ := hrel
    cases m with
    | zero =>
      have HX := hide hX
      clear hX
      rw [List.drop_zero, List.drop_zero, Nat.sub_zero]
      generalize hT : S (Vb.nTxt a.size (Vb.num (L a) + Vb.num (L b) + c.toNat)) = T
      have HT := hide hT
      clear hT
      go_wp2
      go_ret
      exact ⟨ret_str (unhide HT).symm, hbel⟩
    | succ m =>
      have hma : m < a.size := by omega
      have hmb : m < b.size := by have := unhide HL; omega
      have st := nTxt_step (a.size - (m + 1)) _ (Vb.num ((L a).drop m) + Vb.num ((L b).drop m) + c.toNat) X hX (Vb.oneB a[m]) (Vb.oneB b[m]) (by
        rw [L_drop a m hma, L_drop b m hmb, Vb.num_cons, Vb.num_cons, List.length_drop, List.length_drop, L_len, L_len, ← unhide HL, Nat.add_mul]; omega)
      rw [show a.size - (m + 1) + 1 = a.size - m by omega] at st
      have e1 := kn_bl (all_of (unhide KA) m hma)
      have e2 := kn_bl (all_of (unhide KB) m hmb)
      have hz : (S (Vb.nTxt (a.size - (m + 1)) (Vb.num ((L a).drop (m + 1)) + Vb.num ((L b).drop (m + 1)) + c.toNat))).size = a.size - (m + 1) := by rw [S_size, Vb.nTxt_len]
      have ST := hide st
      clear hX st
      generalize hA : Vb.oneB a[m] = A at *
      generalize hB : Vb.oneB b[m] = B at *
      clear hA hB
      generalize hT : S (Vb.nTxt (a.size - (m + 1)) (Vb.num ((L a).drop (m + 1)) + Vb.num ((L b).drop (m + 1)) + c.toNat)) = T at *
      have HT := hide hT
      clear hT
      rw [show (((m + 1 : Nat) : Int) - 1) = (m : Int) by omega]
      have hcv := one_string ((xorB (xorB (bl A) (bl B)) (bl X)).toNat : Int) (xorB (xorB (bl A) (bl B)) (bl X)) rfl
      have hz1 : (S [xorB (xorB (bl A) (bl B)) (bl X)]).size = 1 := by rw [S_size]; rfl
      go_wp2
      go_quiet ((go_at_call 63; exact Calls.quiet_of_same (sXor _ _ _)))
      have hbq := below_drewN hbel nq
      generalize wr.drewN nq = wq at *
      go_wp2_with fail
      go_quiet ((first | (go_at_call 61; exact Calls.quiet_of_same (sAnd _ _ _)) | (go_at_call 62; exact Calls.quiet_of_same (sOr _ _ _))))
      have hbr := below_drewN hbq nq
      generalize wq.drewN nq = wp at *
      go_wp2
      refine ⟨⟨m, by omega, rfl, ⟨_, by rw [add_carry], (unhide ST).2⟩, congrArg Value.string (by rw [(unhide ST).1, add_sum, ← unhide HT, S_app]), bal hbr _⟩, by simp [intOf]⟩
theorem num_fill0 (n : Nat) : Vb.num (List.replicate n 48) = 0 := by
  induction n with
  | zero => rfl
  | succ n ih => rw [List.replicate_succ, Vb.num_cons, ih]; simp [Vb.oneB]
theorem known_fill0 (n : Nat) : (List.replicate n (48 : UInt8)).all Vb.knB = true := by
  rw [List.all_eq_true]; intro c hc; rw [(List.mem_replicate.1 hc).2]; rfl
theorem known_not {l : List UInt8} (h : l.all Vb.knB = true) : (l.map notB).all Vb.knB = true := by
  rw [List.all_map, List.all_eq_true]
  intro c hc
  have := kn_bl (List.all_eq_true.1 h c hc)
  rw [this]; cases Vb.oneB c <;> rfl
theorem num_not {l : List UInt8} (h : l.all Vb.knB = true) : Vb.num (l.map notB) + Vb.num l + 1 = 2 ^ l.length := by
  induction l with
  | nil => rfl
  | cons c l ih =>
    rw [List.all_cons, Bool.and_eq_true] at h
    have hi := ih h.2
    rw [List.map_cons, Vb.num_cons, Vb.num_cons, List.length_map, List.length_cons, Nat.pow_succ]
    have hc := kn_bl h.1
    rw [hc]
    cases Vb.oneB c
    · have : Vb.oneB (notB (bl false)) = true := rfl
      rw [this, bl_one]; simp; omega
    · have : Vb.oneB (notB (bl true)) = false := rfl
      rw [this, bl_one]; simp; omega
theorem neg_num {l : List UInt8} (h : l.all Vb.knB = true) : Vb.nTxt l.length (0 + Vb.num (l.map notB) + 1) = Vb.nTxt l.length (2 ^ l.length - Vb.num l) := by
  have := num_not h
  rw [show 0 + Vb.num (l.map notB) + 1 = 2 ^ l.length - Vb.num l by omega]
set_option maxHeartbeats 400000 in
theorem sNeg (a : ByteArray) (w : World) (ha : a.size ≤ 65) (ka : (L a).all Vb.knB = true) :
    Calls Try.prog 71 #[.string a] w fun e w' => e = .returned (.string (S (Vb.nTxt a.size (2 ^ a.size - Vb.num (L a))))) ∧ Below w.heap.size w w' := by
  have hn := neg_num ka
  rw [L_len] at hn
  have HN := hide hn
  have KA := hide ka
  clear hn ka
  go_enter Try.func71, Try.ntmps71
  go_wp2_with fail
  refine (sFill 48 a.size _ ha).mono ?_
  rintro e w1 ⟨rfl, hb1⟩
  go_wp2_with fail
  refine (sNotAll a _ ha).mono ?_
  rintro e w2 ⟨rfl, hb2⟩
  go_wp2_with fail
  refine (sAdd (S (List.replicate a.size 48)) (S ((L a).map notB)) true _ (by rw [S_size]; simp; omega) (by rw [S_size, S_size]; simp [L_len]) (by rw [L_S]; exact known_fill0 _) (by rw [L_S]; exact known_not (unhide KA))).mono ?_
  rintro e w3 ⟨rfl, hb3⟩
  rw [L_S, L_S, S_size, List.length_replicate, num_fill0]
  have := unhide HN
  simp only [Bool.toNat_true]
  rw [this]
  clear this
  go_wp2
  go_ret
  exact ⟨rfl, btr (btr hb1 hb2) hb3⟩
theorem sub_num {a b : List UInt8} (h : b.all Vb.knB = true) (hl : a.length = b.length) : Vb.nTxt a.length (Vb.num a + Vb.num (b.map notB) + 1) = Vb.nTxt a.length (Vb.num a + (2 ^ a.length - Vb.num b)) := by
  have := num_not h
  rw [hl, show Vb.num a + Vb.num (b.map notB) + 1 = Vb.num a + (2 ^ b.length - Vb.num b) by omega]
set_option maxHeartbeats 400000 in
theorem sSub (a b : ByteArray) (w : World) (ha : a.size ≤ 65) (hl : a.size = b.size) (ka : (L a).all Vb.knB = true) (kb : (L b).all Vb.knB = true) :
    Calls Try.prog 69 #[.string a, .string b] w fun e w' => e = .returned (.string (S (Vb.nTxt a.size (Vb.num (L a) + (2 ^ a.size - Vb.num (L b)))))) ∧ Below w.heap.size w w' := by
  have hn := sub_num (a := L a) kb (by rw [L_len, L_len]; exact hl)
  rw [L_len] at hn
  have HN := hide hn
  have KA := hide ka
  have KB := hide kb
  have HL := hide hl
  have hb : b.size ≤ 65 := by omega
  clear hn ka kb hl
  go_enter Try.func69, Try.ntmps69
  go_wp2_with fail
  refine (sNotAll b _ hb).mono ?_
  rintro e w2 ⟨rfl, hb2⟩
  go_wp2_with fail
  refine (sAdd a (S ((L b).map notB)) true _ ha (by rw [S_size]; simp [L_len]; exact unhide HL) (unhide KA) (by rw [L_S]; exact known_not (unhide KB))).mono ?_
  rintro e w3 ⟨rfl, hb3⟩
  rw [L_S]
  have := unhide HN
  simp only [Bool.toNat_true]
  rw [this]
  clear this
  go_wp2
  go_ret
  exact ⟨rfl, btr hb2 hb3⟩
end Go.Proofs.Ytmbllgblbdfobaa
