/- What the program's neg, all, none and odd answer. -/
/- Plain facts: the parity of a text's ones; the negative; what no bit tells. -/
import Derived.Test.YtmbllgblbdfobaaU3
import Derived.Test.YtmbllgblbdfobaaG6UM
namespace Go.Proofs.Ytmbllgblbdfobaa
open Go.RowKit
attribute [local go_sem] U_and U_or U_xor U_andNot U_shl U_shr U_shl1 U_or1 U_and1 U_toNat U_nonneg U_low U_beq U_bne
set_option maxHeartbeats 400000 in
theorem iNone (n : Nat) (k h : BitVec 64) (hn : n ≤ 64) (w : World) :
    Calls Try.prog 108 #[V n k h] w fun e w' => e = .returned (V 1 (Vb.kn [tru n k h] &&& Vb.wh [tru n k h] ||| Vb.kn [tru n k h] &&& ~~~Vb.wh [tru n k h]) (Vb.kn [tru n k h] &&& ~~~Vb.wh [tru n k h])) ∧ Below w.heap.size w w' := by
  generalize hT1 : Vb.kn [tru n k h] = T1
  generalize hT2 : Vb.wh [tru n k h] = T2
  have HT1 := hide hT1
  have HT2 := hide hT2
  clear hT1 hT2
  unfold V
  go_enter Try.func108, Try.ntmps108
  go_wp2_with fail
  refine (iTruth _ _ _ hn _).mono ?_
  rw [unhide HT1, unhide HT2]
  rintro e w1 ⟨rfl, hb1⟩
  have Xr : RB (w.heap.size + 1) w1 := by refine RB_later hb1 ⟨.int .i64 0, .int .u64 0, .int .u64 0, ?_, ?_, ?_, ?_, ?_, ?_⟩ <;> go_simp
  unfold V
  go_wp2_with fail
  refine (iNot _ _ _ _).mono ?_
  rintro e w2 ⟨rfl, hb2⟩
  obtain ⟨x0, y0, z0, c0, c1, c2, f0, f1, f2⟩ := RB_later hb2 Xr
  have h2 : w.heap.size ≤ w.heap.size + 1 := by omega
  unfold V
  go_wp2
  exact bodyPost_ret (v := V 1 (T1 &&& T2 ||| T1 &&& ~~~T2) (T1 &&& ~~~T2)) (by simp [results, Try.results108, go_sem, V, c0, c1, c2]) rfl ⟨rfl, bst (bst (bst (btr (btr (bal (bal (brf w) _) _) hb1) hb2) h2 _) h2 _) h2 _⟩
set_option maxHeartbeats 400000 in
theorem iAll (n : Nat) (k h : BitVec 64) (hn : n ≤ 64) (t : UInt8) (ht : tru n (k &&& h ||| k &&& ~~~h) (k &&& ~~~h) = t) (w : World) :
    Calls Try.prog 105 #[V n k h] w fun e w' => e = .returned (V 1 (Vb.kn [t] &&& Vb.wh [t] ||| Vb.kn [t] &&& ~~~Vb.wh [t]) (Vb.kn [t] &&& ~~~Vb.wh [t])) ∧ Below w.heap.size w w' := by
  have HT := hide ht
  clear ht
  generalize hT1 : Vb.kn [t] = T1
  generalize hT2 : Vb.wh [t] = T2
  have HT1 := hide hT1
  have HT2 := hide hT2
  clear hT1 hT2
  unfold V
  go_enter Try.func105, Try.ntmps105
  go_wp2_with fail
  refine (iNot _ _ _ _).mono ?_
  rintro e w0 ⟨rfl, hb0⟩
  have Xr0 : RB (w.heap.size + 1) w0 := by refine RB_later hb0 ⟨.int .i64 0, .int .u64 0, .int .u64 0, ?_, ?_, ?_, ?_, ?_, ?_⟩ <;> go_simp
  unfold V
  go_wp2_with fail
  refine (iTruth _ _ _ hn _).mono ?_
  rw [unhide HT, unhide HT1, unhide HT2]
  rintro e w1 ⟨rfl, hb1⟩
  have Xr := RB_later hb1 Xr0
  unfold V
  go_wp2_with fail
  refine (iNot _ _ _ _).mono ?_
  rintro e w2 ⟨rfl, hb2⟩
  obtain ⟨x0, y0, z0, c0, c1, c2, f0, f1, f2⟩ := RB_later hb2 Xr
  have h2 : w.heap.size ≤ w.heap.size + 1 := by omega
  unfold V
  go_wp2
  exact bodyPost_ret (v := V 1 (T1 &&& T2 ||| T1 &&& ~~~T2) (T1 &&& ~~~T2)) (by simp [results, Try.results105, go_sem, V, c0, c1, c2]) rfl ⟨rfl, bst (bst (bst (btr (btr (btr (bal (bal (brf w) _) _) hb0) hb1) hb2) h2 _) h2 _) h2 _⟩
set_option maxHeartbeats 400000 in
theorem iNeg (n : Nat) (k h : BitVec 64) (hn : n ≤ 64) (w : World) :
    Calls Try.prog 104 #[V n k h] w fun e w' => e = .returned (V n (rkK n n (Vb.ones n) k) (rkH n n (Vb.ones n) k (0#64 - h))) ∧ Below w.heap.size w w' := by
  generalize hA : rkK n n (Vb.ones n) k = A
  generalize hB : rkH n n (Vb.ones n) k (0#64 - h) = B
  have HA := hide hA
  have HB := hide hB
  clear hA hB
  unfold V
  go_enter Try.func104, Try.ntmps104
  have Xr : RB (w.heap.size + 1) ((w.alloc (.cells #[.int .i64 n, .int .u64 (U (k)), .int .u64 (U (h))] 60)).alloc (.cells #[.int .i64 0, .int .u64 0, .int .u64 0] 60)) := by refine ⟨.int .i64 0, .int .u64 0, .int .u64 0, ?_, ?_, ?_, ?_, ?_, ?_⟩ <;> go_simp
  go_wp2_with fail
  go_region_held3 (fun w' => w'.cell? ⟨w.heap.size, 0, none⟩ = some (.int .i64 n) ∧ w'.cell? ⟨w.heap.size, 1, none⟩ = some (.int .u64 (U k)) ∧ w'.cell? ⟨w.heap.size, 2, none⟩ = some (.int .u64 (U h))) (first | (go_simp; done) | (refine ⟨?_, ?_, ?_⟩ <;> (refine cell_later hb ?_; go_simp)) | go_keep) (first | (go_at_call 77; refine (iNumber n 0#64 hn _).mono ?_; rintro e w3 ⟨rfl, hb⟩; have hbA := hb; have R3 := RB_later hb Xr; unfold V) | (go_at_call 85; refine (iSubV _ _ _ _ _ _ hn hn _).mono ?_; rw [unhide HA, unhide HB]; rintro e w4 ⟨rfl, hb⟩; have hbB := hb; have R4 := RB_later hb R3; obtain ⟨x0, y0, z0, c0, c1, c2, f0, f1, f2⟩ := R4; unfold V))
  go_wp2
  have h2 : w.heap.size ≤ w.heap.size + 1 := by omega
  exact bodyPost_ret (v := V n A B) (by simp [results, Try.results104, go_sem, V, c0, c1, c2]) rfl ⟨rfl, bst (bst (bst (btr (btr (bdr (bal (bal (brf w) _) _)) hbA) hbB) h2 _) h2 _) h2 _⟩
theorem ans_odd (x : BitVec 64) : (BitVec.ofInt 64 (bits .and .i64 (wrap64 (U (popc x))) 127)).getLsbD 0 = Vb.xr (fun i => x.getLsbD i) 64 := by
  rw [and_127, BitVec.ofInt_natCast, BitVec.getLsbD_ofNat, ← Vb.count_odd]
  have e : ((popc x).toNat % 128).testBit 0 = (popc x).getLsbD 0 := by
    rw [show (128 : Nat) = 2 ^ 7 from rfl, Nat.testBit_mod_two_pow, BitVec.testBit_toNat]; simp
  rw [e]; simp [popc]
set_option maxHeartbeats 400000 in
theorem iOdd (n : Nat) (k h : BitVec 64) (hn : n ≤ 64) (w : World) :
    Calls Try.prog 107 #[V n k h] w fun e w' => e = .returned (V 1 (if k = Vb.ones n then 1#64 else 0#64) (if k = Vb.ones n then BitVec.ofInt 64 (bits .and .i64 (wrap64 (U (popc h))) 127) &&& Vb.ones 1 else 0#64)) ∧ Below w.heap.size w w' := by
  by_cases h1 : k = Vb.ones n
  · have b1 : (k == Vb.ones n) = true := by simp [h1]
    rw [if_pos h1, if_pos h1]
    have B1 := hide b1
    clear h1 b1
    generalize hC : bits .and .i64 (wrap64 (U (popc h))) 127 = C
    have HC := hide hC
    clear hC
    unfold V
    go_enter Try.func107, Try.ntmps107
    go_wp2_with fail
    refine (iIsKnown _ _ _ hn _).mono ?_
    rw [unhide B1]
    rintro e w1 ⟨rfl, hb1⟩
    have hB1 : Below w.heap.size w w1 := btr (bal (bal (brf w) _) _) hb1
    have Xr : RB (w.heap.size + 1) w1 := by refine RB_later hb1 ⟨.int .i64 0, .int .u64 0, .int .u64 0, ?_, ?_, ?_, ?_, ?_, ?_⟩ <;> go_simp
    have Xv : VB w.heap.size n k h w1 := by refine VB_later hb1 ⟨?_, ?_, ?_⟩ <;> go_simp
    obtain ⟨v0, v1, v2⟩ := Xv
    go_wp2_with fail
    refine (iCount h _).mono ?_
    rw [unhide HC]
    rintro e w2 ⟨rfl, rfl⟩
    go_wp2_with fail
    rw [U_wrap]
    refine (iNumber 1 _ (by omega) _).mono ?_
    rw [show Vb.ones 1 = 1#64 from rfl]
    rintro e w3 ⟨rfl, hb3⟩
    obtain ⟨x0, y0, z0, c0, c1, c2, f0, f1, f2⟩ := RB_later hb3 Xr
    have h2 : w.heap.size ≤ w.heap.size + 1 := by omega
    unfold V
    go_wp2
    exact bodyPost_ret (v := V 1 1#64 (BitVec.ofInt 64 C &&& 1#64)) (by simp [results, Try.results107, go_sem, V, c0, c1, c2]) rfl ⟨rfl, bst (bst (bst (btr hB1 hb3) h2 _) h2 _) h2 _⟩
  · have b1 : (k == Vb.ones n) = false := by simp [h1]
    rw [if_neg h1, if_neg h1]
    have B1 := hide b1
    clear h1 b1
    unfold V
    go_enter Try.func107, Try.ntmps107
    go_wp2_with fail
    refine (iIsKnown _ _ _ hn _).mono ?_
    rw [unhide B1]
    rintro e w1 ⟨rfl, hb1⟩
    have hB1 : Below w.heap.size w w1 := btr (bal (bal (brf w) _) _) hb1
    have Xr : RB (w.heap.size + 1) w1 := by refine RB_later hb1 ⟨.int .i64 0, .int .u64 0, .int .u64 0, ?_, ?_, ?_, ?_, ?_, ?_⟩ <;> go_simp
    go_wp2_with fail
    refine (iUnknown 1 _).mono ?_
    rintro e w3 ⟨rfl, hb3⟩
    obtain ⟨x0, y0, z0, c0, c1, c2, f0, f1, f2⟩ := RB_later hb3 Xr
    have h2 : w.heap.size ≤ w.heap.size + 1 := by omega
    unfold V
    go_wp2
    exact bodyPost_ret (v := V 1 0#64 0#64) (by simp [results, Try.results107, go_sem, V, c0, c1, c2]) rfl ⟨rfl, bst (bst (bst (btr hB1 hb3) h2 _) h2 _) h2 _⟩
end Go.Proofs.Ytmbllgblbdfobaa
namespace Go.Proofs.Ytmbllgblbdfobaa
open Vb
theorem xr_shift (f g : Nat → Bool) (n : Nat) (h : ∀ i, i < n → f (i + 1) = g i) : xr f (n + 1) = (f 0 ^^ xr g n) := by
  induction n with
  | zero => simp [xr]
  | succ n ih => rw [xr, ih (fun i hi => h i (by omega)), xr, h n (by omega), Bool.xor_assoc]
theorem xr_false (n : Nat) : xr (fun _ => false) n = false := by
  induction n with
  | zero => rfl
  | succ n ih => rw [xr, ih]; rfl
theorem fold_xor (l : List UInt8) (b : Bool) : l.foldl (fun a x => a ^^ oneB x) b = (b ^^ l.foldl (fun a x => a ^^ oneB x) false) := by
  induction l generalizing b with
  | nil => simp
  | cons c t ih => rw [List.foldl_cons, List.foldl_cons, ih (b ^^ oneB c), ih (false ^^ oneB c)]; simp
theorem xr_list (r : List UInt8) (n : Nat) (hn : r.length ≤ n) : xr (fun i => ((r[i]?).map oneB).getD false) n = r.reverse.foldl (fun a x => a ^^ oneB x) false := by
  induction r generalizing n with
  | nil => simp only [List.getElem?_nil, Option.map_none, Option.getD_none]; exact xr_false n
  | cons c t ih =>
    cases n with
    | zero => simp at hn
    | succ n =>
      rw [xr_shift _ (fun i => ((t[i]?).map oneB).getD false) n (fun i _ => by simp), ih n (by simpa using hn), List.reverse_cons, List.foldl_append]
      simp [Bool.xor_comm]
theorem odd_list {l : List UInt8} (hk : l.all knB = true) (h2 : l.length ≤ 64) : xr (fun i => (wh l).getLsbD i) 64 = l.foldl (fun a x => a ^^ oneB x) false := by
  have := xr_list l.reverse 64 (by simpa using h2)
  rw [List.reverse_reverse] at this
  rw [← this]
  apply xr_congr
  intro i hi
  rw [wh_num hk, BitVec.getLsbD_ofNat, testBit_num]
  simp [hi, rat]
theorem txt_x (n : Nat) : txt n 0#64 0#64 = List.replicate n 120 := by
  induction n with
  | zero => rfl
  | succ n ih => rw [txt, ih, List.replicate_succ]; simp [letter]
theorem odd_txt {l : List UInt8} (hv : l.all isV = true) (h1 : 1 ≤ l.length) (h2 : l.length ≤ 64) :
    txt 1 (if kn l = ones l.length then 1#64 else 0#64) (if kn l = ones l.length then BitVec.ofInt 64 (bits .and .i64 (RowKit.wrap64 (U (popc (wh l)))) 127) &&& ones 1 else 0#64) = [foldB xorB l] := by
  rw [xor_odd hv h1]
  by_cases hk : l.all knB = true
  · have hk' := (kn_ones h2).2 hk
    rw [if_pos hk', if_pos hk', if_pos hk]
    show letter _ _ :: txt 0 _ _ = _
    rw [BitVec.getLsbD_and, ans_odd, odd_list hk h2, getLsbD_ones]
    generalize l.foldl (fun a x => a ^^ oneB x) false = b
    cases b <;> rfl
  · have hk' : ¬ kn l = ones l.length := fun h => hk ((kn_ones h2).1 h)
    rw [if_neg hk', if_neg hk', if_neg hk]; rfl
theorem neg_txt {l : List UInt8} (h2 : l.length ≤ 64) :
    txt l.length (rkK l.length l.length (ones l.length) (kn l)) (rkH l.length l.length (ones l.length) (kn l) (0#64 - wh l)) = if l.all knB = true then nTxt l.length (2 ^ l.length - num l) else List.replicate l.length 120 := by
  unfold rkK rkH
  by_cases hk : l.all knB = true
  · have hk' := (kn_ones h2).2 hk
    rw [if_pos ⟨rfl, hk'⟩, if_pos ⟨rfl, hk'⟩, if_pos hk, num_txt _ _ h2]
    apply nTxt_congr
    rw [BitVec.toNat_sub, wh_toNat hk h2]
    have hlt := num_lt l
    have h64 : 2 ^ 64 = 2 ^ l.length * 2 ^ (64 - l.length) := by rw [← Nat.pow_add]; congr 1; omega
    have hle : 2 ^ l.length ≤ 2 ^ 64 := Nat.pow_le_pow_right (by omega) h2
    have e : (2 ^ 64 - num l + (0#64).toNat) % 2 ^ 64 % 2 ^ l.length = (2 ^ 64 - num l) % 2 ^ l.length := by
      rw [show (0#64).toNat = 0 from rfl, Nat.add_zero, Nat.mod_mod_of_dvd _ ⟨2 ^ (64 - l.length), h64⟩]
    rw [e]
    have e2 : 2 ^ 64 - num l = (2 ^ l.length - num l) + 2 ^ l.length * (2 ^ (64 - l.length) - 1) := by
      rw [Nat.mul_sub, ← h64, Nat.mul_one]; omega
    rw [e2, Nat.add_mul_mod_self_left]
  · have hk' : ¬ kn l = ones l.length := fun h => hk ((kn_ones h2).1 h)
    rw [if_neg (fun h => hk' h.2), if_neg (fun h => hk' h.2), if_neg hk, txt_x]
end Go.Proofs.Ytmbllgblbdfobaa
