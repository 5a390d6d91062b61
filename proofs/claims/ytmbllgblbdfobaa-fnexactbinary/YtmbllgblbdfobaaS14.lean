/- What the specification's Binary answers, for an operation that goes bit by bit. -/
import Derived.Test.YtmbllgblbdfobaaS13
import Derived.Test.YtmbllgblbdfobaaS12
import Derived.Deep.RegionHeld3
namespace Go.Proofs.Ytmbllgblbdfobaa
open Go.RowKit
theorem sKn (s : ByteArray) (w : World) (t : Bool) (hs : s.size ≤ maxLen) (ht : (L s).all Vb.knB = t) : Calls Try.prog 47 #[.string s] w fun e w' => e = .returned (.bool t) ∧ w = w' :=
  (sKnown s w hs).mono fun _ _ ⟨h, h'⟩ => ⟨by rw [h, ht], h'.symm⟩
/-- An append of one byte to a row of bytes of one's own, as a step of a region that draws its order. -/
theorem stepB {ops : Array Oper} {o : Oper} {a : Act} {w : World} {K : Act → World → Prop} {Q : Exit → Act → World → Prop} {E : Prop} (hgd : o.guard = none) (s x : Operand)
    (ho : o.op = .call { callee := .builtin .append, args := #[s, x], argTypes := #[22, 22] }) {Z : Nat} {v : Value} {l : List UInt8} (hs : a.eval s = v) (hown : OB Z v l w) (M : Nat) (c : UInt8)
    (hx : a.eval x = .slice (some ⟨M, 0, none⟩) 1 1) (hc : w.cell? ⟨M, 0, none⟩ = some (bv c)) (h63 : l.length ≤ 1000) (hZ : Z ≤ w.heap.size)
    (h : ∀ v' w', OB Z v' (l ++ [c]) w' → w.grownBy w' v.ownBlock → K (a.put o.dst v') w') :
    if Region.wanted o (yielded ops a.tmps) = true then Oper.wp Try.prog o a w K Q else E := by
  obtain ⟨i0, hi, hz0, hz1, hz2⟩ := info_parts info5
  have hw : Region.wanted o (yielded ops a.tmps) = true := by simp [Region.wanted, hgd]
  rw [if_pos hw]
  refine wp_append_own w s x 22 ho Z 5 i0 (.int .u8 0) 1 1 Try.underlying22 hi hz0 hz1 hz2 rfl (by decide) v l.length (l.map bv) hs hown ⟨M, 0, none⟩ 1 1 [bv c] hx rfl ?_ ?_ (by unfold maxLen; omega) (by omega) hZ ?_
  · intro j u hu
    cases j with
    | zero => obtain rfl : bv c = u := by simpa using hu
              rw [Addr.add_lit]; exact hc
    | succ j => simp at hu
  · intro u hu; simp at hu; subst hu; rfl
  · intro v' w' hown' hgrow _
    exact h v' w' (OB_step hown') hgrow
theorem cell_new1 {X : World} {v : Value} {t : TypeId} {M : Nat} (hM : X.heap.size = M) : (X.alloc (.cells #[v] t)).cell? ⟨M, 0, none⟩ = some v := by
  subst hM
  rw [World.cell?_alloc_new]; rfl
theorem below_drew {B : Nat} {w W : World} (h : Below B w W) : Below B w W.drew := ⟨h.os, h.tape, h.output, h.size, h.block⟩
set_option maxRecDepth 100000 in
set_option maxHeartbeats 1000000 in
theorem sBin1 (sg : Bool) (a b : ByteArray) (n : Nat) (w : World) (ha : a.size ≤ maxLen) (hb : b.size ≤ maxLen) (va : Vb.okV (L a) = true) (vb : Vb.okV (L b) = true) (ea : a.size = n) (eb : b.size = n) :
    Calls Try.prog 28 #[.int .i64 1, .bool sg, .string a, .string b] w fun e w' => e = .returned (.string (S (List.zipWith andB (L a) (L b)))) ∧ Below w.heap.size w w' := by
  obtain ⟨i0, hi, hz0, hz1, hz2⟩ := info_parts info5
  obtain ⟨a1, a2, _⟩ := (okV_iff a).1 va
  have VA := hide va
  have VBB := hide vb
  have HA := hide ha
  have HBB := hide hb
  rw [ea] at a1 a2
  clear va vb ha hb
  generalize hkB : (L b).all Vb.knB = kB
  cases hkA : (L a).all Vb.knB
  all_goals
    have KA := hide hkA
    have KB := hide hkB
    clear hkA hkB
    go_enter Try.func28, Try.ntmps28
    go_wp2_with (first | (go_at_call_of 35 (Value.string a); refine (sOK1 a _ (unhide HA) (unhide VA)).mono ?_; rintro e w' ⟨rfl, rfl⟩) | (go_at_call_of 35 (Value.string b); refine (sOK1 b _ (unhide HBB) (unhide VBB)).mono ?_; rintro e w' ⟨rfl, rfl⟩) | (go_at_call_of 47 (Value.string a); refine (sKn a _ _ (unhide HA) (unhide KA)).mono ?_; rintro e w' ⟨rfl, rfl⟩) | (go_at_call_of 47 (Value.string b); refine (sKn b _ _ (unhide HBB) (unhide KB)).mono ?_; rintro e w' ⟨rfl, rfl⟩))
    go_loopw [10, 11] (fun v i wr => ∃ k : Nat, k ≤ n ∧ i = .int .i64 k ∧ OB w.heap.size v (List.zipWith andB ((L a).take k) ((L b).take k)) wr ∧ Below w.heap.size w wr) (fun _ i _ => n - (intOf i).toNat)
    case atStart => exact ⟨0, Nat.zero_le _, rfl, OB_start (Nat.le_refl _), bal (brf _) _⟩
    case round =>
      obtain ⟨k, hk, rfl, hown, hbel⟩ := hrel
      have hsz := hbel.size
      by_cases hlt : k < n
      · have hlta : k < a.size := by omega
        have hltb : k < b.size := by omega
        have st := zip_step andB a b k hlta hltb
        have hlen := zip_len andB a b k (by omega) (by omega)
        have ST := hide st
        clear st
        have j1 : (k : Int) < n := by omega
        go_wp2
        go_region_held3 (fun w' => Below w.heap.size w w')
          (first | assumption | exact hb2 | exact below_drew hbel | exact bal (by assumption) _)
          (first
            | (go_at_call 61; refine (sAnd _ _ _).mono ?_; rintro e w' ⟨rfl, rfl⟩)
            | (refine stepB rfl _ _ rfl rfl (World.ownsRow.alloc (w := wr.drew) hown _) _ (andB a[k] b[k]) rfl (cell_new1 (by first | rfl | (simp; done))) (by rw [hlen]; omega) (by simp; omega) ?_; intro v' w2 hown' hgrow; have hb2 := OB_below (below_drew hbel) hsz hown hgrow))
        all_goals
          go_wp2
          exact ⟨⟨k + 1, by omega, by go_num, by rw [unhide ST]; exact hown', hb2⟩, by simp [intOf]; omega⟩
      · have hcv := OB_string hown
        rw [L_take_all a k (by omega), L_take_all b k (by omega)] at hcv
        go_wp2
        go_ret
        exact ⟨rfl, hbel⟩
set_option maxRecDepth 100000 in
set_option maxHeartbeats 1000000 in
theorem sBin2 (sg : Bool) (a b : ByteArray) (n : Nat) (w : World) (ha : a.size ≤ maxLen) (hb : b.size ≤ maxLen) (va : Vb.okV (L a) = true) (vb : Vb.okV (L b) = true) (ea : a.size = n) (eb : b.size = n) :
    Calls Try.prog 28 #[.int .i64 2, .bool sg, .string a, .string b] w fun e w' => e = .returned (.string (S (List.zipWith orB (L a) (L b)))) ∧ Below w.heap.size w w' := by
  obtain ⟨i0, hi, hz0, hz1, hz2⟩ := info_parts info5
  obtain ⟨a1, a2, _⟩ := (okV_iff a).1 va
  have VA := hide va
  have VBB := hide vb
  have HA := hide ha
  have HBB := hide hb
  rw [ea] at a1 a2
  clear va vb ha hb
  generalize hkB : (L b).all Vb.knB = kB
  cases hkA : (L a).all Vb.knB
  all_goals
    have KA := hide hkA
    have KB := hide hkB
    clear hkA hkB
    go_enter Try.func28, Try.ntmps28
    go_wp2_with (first | (go_at_call_of 35 (Value.string a); refine (sOK1 a _ (unhide HA) (unhide VA)).mono ?_; rintro e w' ⟨rfl, rfl⟩) | (go_at_call_of 35 (Value.string b); refine (sOK1 b _ (unhide HBB) (unhide VBB)).mono ?_; rintro e w' ⟨rfl, rfl⟩) | (go_at_call_of 47 (Value.string a); refine (sKn a _ _ (unhide HA) (unhide KA)).mono ?_; rintro e w' ⟨rfl, rfl⟩) | (go_at_call_of 47 (Value.string b); refine (sKn b _ _ (unhide HBB) (unhide KB)).mono ?_; rintro e w' ⟨rfl, rfl⟩))
    go_loopw [10, 11] (fun v i wr => ∃ k : Nat, k ≤ n ∧ i = .int .i64 k ∧ OB w.heap.size v (List.zipWith orB ((L a).take k) ((L b).take k)) wr ∧ Below w.heap.size w wr) (fun _ i _ => n - (intOf i).toNat)
    case atStart => exact ⟨0, Nat.zero_le _, rfl, OB_start (Nat.le_refl _), bal (brf _) _⟩
    case round =>
      obtain ⟨k, hk, rfl, hown, hbel⟩ := hrel
      have hsz := hbel.size
      by_cases hlt : k < n
      · have hlta : k < a.size := by omega
        have hltb : k < b.size := by omega
        have st := zip_step orB a b k hlta hltb
        have hlen := zip_len orB a b k (by omega) (by omega)
        have ST := hide st
        clear st
        have j1 : (k : Int) < n := by omega
        go_wp2
        go_region_held3 (fun w' => Below w.heap.size w w')
          (first | assumption | exact hb2 | exact below_drew hbel | exact bal (by assumption) _)
          (first
            | (go_at_call 62; refine (sOr _ _ _).mono ?_; rintro e w' ⟨rfl, rfl⟩)
            | (refine stepB rfl _ _ rfl rfl (World.ownsRow.alloc (w := wr.drew) hown _) _ (orB a[k] b[k]) rfl (cell_new1 (by first | rfl | (simp; done))) (by rw [hlen]; omega) (by simp; omega) ?_; intro v' w2 hown' hgrow; have hb2 := OB_below (below_drew hbel) hsz hown hgrow))
        all_goals
          go_wp2
          exact ⟨⟨k + 1, by omega, by go_num, by rw [unhide ST]; exact hown', hb2⟩, by simp [intOf]; omega⟩
      · have hcv := OB_string hown
        rw [L_take_all a k (by omega), L_take_all b k (by omega)] at hcv
        go_wp2
        go_ret
        exact ⟨rfl, hbel⟩
set_option maxRecDepth 100000 in
set_option maxHeartbeats 1000000 in
theorem sBin3 (sg : Bool) (a b : ByteArray) (n : Nat) (w : World) (ha : a.size ≤ maxLen) (hb : b.size ≤ maxLen) (va : Vb.okV (L a) = true) (vb : Vb.okV (L b) = true) (ea : a.size = n) (eb : b.size = n) :
    Calls Try.prog 28 #[.int .i64 3, .bool sg, .string a, .string b] w fun e w' => e = .returned (.string (S (List.zipWith xorB (L a) (L b)))) ∧ Below w.heap.size w w' := by
  obtain ⟨i0, hi, hz0, hz1, hz2⟩ := info_parts info5
  obtain ⟨a1, a2, _⟩ := (okV_iff a).1 va
  have VA := hide va
  have VBB := hide vb
  have HA := hide ha
  have HBB := hide hb
  rw [ea] at a1 a2
  clear va vb ha hb
  generalize hkB : (L b).all Vb.knB = kB
  cases hkA : (L a).all Vb.knB
  all_goals
    have KA := hide hkA
    have KB := hide hkB
    clear hkA hkB
    go_enter Try.func28, Try.ntmps28
    go_wp2_with (first | (go_at_call_of 35 (Value.string a); refine (sOK1 a _ (unhide HA) (unhide VA)).mono ?_; rintro e w' ⟨rfl, rfl⟩) | (go_at_call_of 35 (Value.string b); refine (sOK1 b _ (unhide HBB) (unhide VBB)).mono ?_; rintro e w' ⟨rfl, rfl⟩) | (go_at_call_of 47 (Value.string a); refine (sKn a _ _ (unhide HA) (unhide KA)).mono ?_; rintro e w' ⟨rfl, rfl⟩) | (go_at_call_of 47 (Value.string b); refine (sKn b _ _ (unhide HBB) (unhide KB)).mono ?_; rintro e w' ⟨rfl, rfl⟩))
    go_loopw [10, 11] (fun v i wr => ∃ k : Nat, k ≤ n ∧ i = .int .i64 k ∧ OB w.heap.size v (List.zipWith xorB ((L a).take k) ((L b).take k)) wr ∧ Below w.heap.size w wr) (fun _ i _ => n - (intOf i).toNat)
    case atStart => exact ⟨0, Nat.zero_le _, rfl, OB_start (Nat.le_refl _), bal (brf _) _⟩
    case round =>
      obtain ⟨k, hk, rfl, hown, hbel⟩ := hrel
      have hsz := hbel.size
      by_cases hlt : k < n
      · have hlta : k < a.size := by omega
        have hltb : k < b.size := by omega
        have st := zip_step xorB a b k hlta hltb
        have hlen := zip_len xorB a b k (by omega) (by omega)
        have ST := hide st
        clear st
        have j1 : (k : Int) < n := by omega
        go_wp2
        go_region_held3 (fun w' => Below w.heap.size w w')
          (first | assumption | exact hb2 | exact below_drew hbel | exact bal (by assumption) _)
          (first
            | (go_at_call 63; refine (sXor _ _ _).mono ?_; rintro e w' ⟨rfl, rfl⟩)
            | (refine stepB rfl _ _ rfl rfl (World.ownsRow.alloc (w := wr.drew) hown _) _ (xorB a[k] b[k]) rfl (cell_new1 (by first | rfl | (simp; done))) (by rw [hlen]; omega) (by simp; omega) ?_; intro v' w2 hown' hgrow; have hb2 := OB_below (below_drew hbel) hsz hown hgrow))
        all_goals
          go_wp2
          exact ⟨⟨k + 1, by omega, by go_num, by rw [unhide ST]; exact hown', hb2⟩, by simp [intOf]; omega⟩
      · have hcv := OB_string hown
        rw [L_take_all a k (by omega), L_take_all b k (by omega)] at hcv
        go_wp2
        go_ret
        exact ⟨rfl, hbel⟩
end Go.Proofs.Ytmbllgblbdfobaa
