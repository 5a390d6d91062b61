/- What the specification's Resolve answers. -/
/- What the specification's Binary answers, for an operation that goes bit by bit. -/
/- What the specification's Binary answers: equal, unequal, the same, both, either. -/
import Derived.Test.YtmbllgblbdfobaaG11S13
import Derived.Deep.QuietTactic
import Derived.BigQuiet
import Derived.Deep.RegionHeld3
namespace Go.Proofs.Ytmbllgblbdfobaa
open Go.RowKit
theorem sOKq1 (s : ByteArray) (w : World) (hs : s.size ≤ maxLen) (hv : Vb.okV (L s) = true) : Calls Try.prog 35 #[.string s] w fun e w' => e = .returned (.bool true) ∧ w' = w :=
  (sBitsOK s w hs).mono fun _ _ ⟨h, h'⟩ => ⟨by rw [h, hv], h'⟩
theorem sOKq0 (s : ByteArray) (w : World) (hs : s.size ≤ maxLen) (hv : Vb.okV (L s) = false) : Calls Try.prog 35 #[.string s] w fun e w' => e = .returned (.bool false) ∧ w' = w :=
  (sBitsOK s w hs).mono fun _ _ ⟨h, h'⟩ => ⟨by rw [h, hv], h'⟩
/-- What two drivers of one wire give together, a letter each. -/
def resB (c d : UInt8) : UInt8 := if d = 122 ∨ d = c then c else if c = 122 then d else 120
/-- Column k of the texts, resolved. -/
def colL (ss : List ByteArray) (k : Nat) : UInt8 := ss.foldl (fun c s => resB c ((L s).getD k 0)) 122
def resCols (ss : List ByteArray) (n : Nat) : List UInt8 := (List.range n).map (colL ss)
theorem resB_x (d : UInt8) : resB 120 d = 120 := by
  unfold resB
  by_cases h : d = 122 ∨ d = 120
  · rw [if_pos h]
  · rw [if_neg h, if_neg (by decide)]
theorem fold_x (ss : List ByteArray) (k : Nat) : ss.foldl (fun c s => resB c ((L s).getD k 0)) 120 = 120 := by
  induction ss with
  | nil => rfl
  | cons s t ih => rw [List.foldl_cons, resB_x]; exact ih
theorem fold_split (ss : List ByteArray) (k j : Nat) (c0 : UInt8) : ss.foldl (fun c s => resB c ((L s).getD k 0)) c0 = (ss.drop j).foldl (fun c s => resB c ((L s).getD k 0)) ((ss.take j).foldl (fun c s => resB c ((L s).getD k 0)) c0) := by
  rw [← List.foldl_append, List.take_append_drop]
theorem col_step (ss : List ByteArray) (k j : Nat) (hj : j < ss.length) : (ss.take (j + 1)).foldl (fun c s => resB c ((L s).getD k 0)) 122 = resB ((ss.take j).foldl (fun c s => resB c ((L s).getD k 0)) 122) ((L ss[j]).getD k 0) := by
  rw [List.take_succ_eq_append_getElem hj, List.foldl_append]; rfl
theorem L_getD (s : ByteArray) (k : Nat) (h : k < s.size) : (L s).getD k 0 = s[k] := by
  rw [List.getD_eq_getElem?_getD, List.getElem?_eq_getElem (by rw [L_len]; exact h)]; rfl
theorem resCols_step (ss : List ByteArray) (k : Nat) : resCols ss (k + 1) = resCols ss k ++ [colL ss k] := by
  unfold resCols; rw [List.range_succ, List.map_append]; rfl
theorem resCols_len (ss : List ByteArray) (k : Nat) : (resCols ss k).length = k := by unfold resCols; simp
set_option maxRecDepth 100000 in
set_option maxHeartbeats 1000000 in
theorem sResolve (b off n cap m : Nat) (ss : List ByteArray) (w : World) (hlen : ss.length = n) (hc : ∀ i, (h : i < ss.length) → w.cell? ⟨b, off + i, none⟩ = some (.string ss[i])) (h1 : 1 ≤ n) (hn : n ≤ 4096) (hok : ∀ s ∈ ss, Vb.okV (L s) = true) (hsz : ∀ s ∈ ss, s.size = m) (hm : m ≤ 64) :
    Calls Try.prog 32 #[.slice (some ⟨b, off, none⟩) n cap] w fun e w' => e = .returned (.string (S (resCols ss m))) ∧ Below w.heap.size w w' := by
  obtain ⟨i0, hi, hz0, hz1, hz2⟩ := info_parts info5
  have HL := hide hlen
  have HC := hide hc
  have HO := hide hok
  have HS := hide hsz
  have hp0 : 0 < ss.length := by omega
  have hc0 : w.cell? ⟨b, off, none⟩ = some (.string ss[0]) := hc 0 hp0
  have hs0 : (ss[0]).size = m := hsz _ (List.getElem_mem hp0)
  have ne0 : ((n : Int) == 0) = false := by simp; omega
  have ng : decide (4096 < (n : Int)) = false := by simp; omega
  clear hlen hc hok hsz
  generalize ss[0] = x0 at *
  go_enter Try.func32, Try.ntmps32
  go_wp2
  go_loopw [3] (fun i W => ∃ k : Nat, k ≤ n ∧ i = .int .i64 k ∧ Below w.heap.size w W) (fun i _ => n - (intOf i).toNat)
  case atStart => exact ⟨0, Nat.zero_le _, rfl, brf _⟩
  case round =>
    obtain ⟨k, hk, rfl, hbel⟩ := hrel
    have hc0' := cell_later hbel hc0
    by_cases hlt : k < n
    · have hks : k < ss.length := by rw [unhide HL]; exact hlt
      have hcell := cell_later hbel (unhide HC k hks)
      have hxo := hide (unhide HO ss[k] (List.getElem_mem hks))
      have hxs := unhide HS ss[k] (List.getElem_mem hks)
      have hxm : (ss[k]).size ≤ maxLen := by unfold maxLen; omega
      have j1 : (0 : Int) ≤ (k : Int) := by omega
      have j2 : (k : Int) < (n : Int) := by omega
      have j3 : (0 : Int) < (n : Int) := by omega
      generalize ss[k] = x at *
      go_wp2_with fail
      go_quiet ((go_at_call 35; exact Calls.quiet_of_same (sOKq1 x _ hxm (unhide hxo))))
      go_wp2
      go_roundw
      case rel => exact ⟨k + 1, by omega, by go_num, below_drewN hbel _⟩
      case measure => simp [intOf]; omega
    · go_wp2
      have hbel0 : w.heap.size ≤ wr.heap.size := hbel.size
      go_loopw [4, 5] (fun v i W => ∃ k : Nat, k ≤ m ∧ i = .int .i64 k ∧ OB w.heap.size v (resCols ss k) W ∧ Below w.heap.size w W) (fun _ i _ => m - (intOf i).toNat)
      case atStart => exact ⟨0, Nat.zero_le _, rfl, OB_start hbel0, hbel.alloc hbel0 _⟩
      case round =>
        clear hbel hc0' hbel0 hlt hk
        obtain ⟨k, hk, rfl, hown, hbel⟩ := hrel
        have hc0' := cell_later hbel hc0
        have hsz := hbel.size
        have j3 : (0 : Int) < (n : Int) := by omega
        by_cases hlt : k < m
        · go_wp2
          go_loop [6, 7, 8] (fun c i _d => ∃ j : Nat, j ≤ n ∧ i = .int .i64 j ∧ ∃ y : UInt8, c = .int .u8 (y.toNat : Int) ∧ y = (ss.take j).foldl (fun c s => resB c ((L s).getD k 0)) 122) (fun _ i _ => n - (intOf i).toNat)
          case atStart => exact ⟨0, Nat.zero_le _, rfl, 122, rfl, rfl⟩
          case round =>
            obtain ⟨j, hj, rfl, y, rfl, hy⟩ := hrel
            have HY := hide hy
            clear hy
            by_cases hjn : j < n
            · have hjs : j < ss.length := by rw [unhide HL]; exact hjn
              have hcell := cell_later hbel (unhide HC j hjs)
              have hxs := unhide HS ss[j] (List.getElem_mem hjs)
              have st := col_step ss k j hjs
              rw [← unhide HY] at st
              have sp := fold_split ss k (j + 1) 122
              rw [st] at sp
              have hkx : k < (ss[j]).size := by omega
              generalize ss[j] = x at *
              rw [L_getD x k hkx] at st sp
              have ST := hide st
              have SP := hide sp
              clear st sp hxs
              by_cases e1 : x[k] = 122
              · have r1 : resB y x[k] = y := by unfold resB; rw [if_pos (.inl e1)]
                have q1 : (x[k].toNat : Int) = 122 := by rw [e1]; rfl
                have R1 := hide r1
                clear e1 r1 SP
                go_wp2
                go_round
                case rel => exact ⟨j + 1, by omega, by go_num, y, rfl, by rw [unhide ST, unhide R1]⟩
                case measure => simp [intOf]; omega
              · have n1 : ((x[k].toNat : Int) == 122) = false := u8_nq 122 (by omega) e1
                by_cases e2 : x[k] = y
                · have r1 : resB y x[k] = y := by unfold resB; rw [if_pos (.inr e2)]
                  have q2 : ((x[k].toNat : Int) == (y.toNat : Int)) = true := by rw [e2]; exact beq_self_eq_true _
                  have R1 := hide r1
                  clear e1 e2 r1 SP
                  go_wp2
                  go_round
                  case rel => exact ⟨j + 1, by omega, by go_num, y, rfl, by rw [unhide ST, unhide R1]⟩
                  case measure => simp [intOf]; omega
                · have q2 : ((x[k].toNat : Int) == (y.toNat : Int)) = false := by rw [beq_eq_false_iff_ne]; intro h; exact e2 (UInt8.toNat_inj.1 (by omega))
                  by_cases e3 : y = 122
                  · have r1 : resB y x[k] = x[k] := by unfold resB; rw [if_neg (by simp [e1, e2]), if_pos e3]
                    have q3 : ((y.toNat : Int) == 122) = true := by rw [e3]; rfl
                    have R1 := hide r1
                    clear e1 e2 e3 r1 SP
                    go_wp2
                    go_round
                    case rel => exact ⟨j + 1, by omega, by go_num, x[k], rfl, by rw [unhide ST, unhide R1]⟩
                    case measure => simp [intOf]; omega
                  · have r1 : resB y x[k] = 120 := by unfold resB; rw [if_neg (by simp [e1, e2]), if_neg e3]
                    have q3 : ((y.toNat : Int) == 122) = false := u8_nq 122 (by omega) e3
                    have HF : Hid (colL ss k = 120) := by show _ = _; unfold colL; rw [unhide SP, r1]; exact fold_x _ _
                    clear e1 e2 e3 r1 SP ST
                    go_wp2_with (first | (at_builtin; refine wpList_append_own _ rfl _ _ 22 rfl w.heap.size 5 i0 (.int .u8 0) 1 1 Try.underlying22 hi hz0 hz1 hz2 rfl (by decide) _ _ _ rfl (World.ownsRow.alloc hown _) ⟨_, 0, none⟩ 1 1 [bv 120] rfl rfl (cell_one_new _ _ _) (by intro u hu; simp at hu; subst hu; rfl) (by rw [resCols_len]; unfold maxLen; omega) (by rw [resCols_len]; omega) (by simp; omega) ?_; intro v' w1 hown' hgrow _))
                    exact ⟨⟨k + 1, by omega, by go_num, by rw [resCols_step, unhide HF]; exact OB_step hown', OB_below hbel hsz hown hgrow⟩, by simp [intOf]; omega⟩
            · have HF : Hid (colL ss k = y) := by
                have := unhide HY
                rw [List.take_of_length_le (by rw [unhide HL]; omega)] at this
                exact this.symm
              go_wp2_with (first | (at_builtin; refine wpList_append_own _ rfl _ _ 22 rfl w.heap.size 5 i0 (.int .u8 0) 1 1 Try.underlying22 hi hz0 hz1 hz2 rfl (by decide) _ _ _ rfl (World.ownsRow.alloc hown _) ⟨_, 0, none⟩ 1 1 [bv y] rfl rfl (cell_one_new _ _ _) (by intro u hu; simp at hu; subst hu; rfl) (by rw [resCols_len]; unfold maxLen; omega) (by rw [resCols_len]; omega) (by simp; omega) ?_; intro v' w1 hown' hgrow _))
              exact ⟨⟨k + 1, by omega, by go_num, by rw [resCols_step, unhide HF]; exact OB_step hown', OB_below hbel hsz hown hgrow⟩, by simp [intOf]; omega⟩
        · have hcv := OB_string hown
          have hkm : k = m := by omega
          subst hkm
          go_wp2
          go_ret
          exact ⟨rfl, hbel⟩
set_option maxHeartbeats 400000 in
theorem sResolve_0 (a : Option Addr) (n cap : Nat) (w : World) (h : n = 0 ∨ 4096 < n) :
    Calls Try.prog 32 #[.slice a n cap] w fun e w' => e = .returned (.string (S [])) ∧ Below w.heap.size w w' := by
  rcases h with rfl | h
  · go_enter Try.func32, Try.ntmps32
    go_wp2
    go_ret
    exact ⟨rfl, brf _⟩
  · have ne0 : ((n : Int) == 0) = false := by simp; omega
    have ng : (4096 : Int) < (n : Int) := by omega
    go_enter Try.func32, Try.ntmps32
    go_wp2
    go_ret
    exact ⟨rfl, brf _⟩
set_option maxRecDepth 100000 in
set_option maxHeartbeats 400000 in
theorem sResolve_no (b off n cap m : Nat) (ss : List ByteArray) (w : World) (hlen : ss.length = n) (hc : ∀ i, (h : i < ss.length) → w.cell? ⟨b, off + i, none⟩ = some (.string ss[i])) (h1 : 1 ≤ n) (hn : n ≤ 4096) (hz : ∀ s ∈ ss, s.size ≤ maxLen) (hm : (ss[0]'(by omega)).size = m) (hbad : ¬ ∀ s ∈ ss, Vb.okV (L s) = true ∧ s.size = m) :
    Calls Try.prog 32 #[.slice (some ⟨b, off, none⟩) n cap] w fun e w' => e = .returned (.string (S [])) ∧ Below w.heap.size w w' := by
  have HL := hide hlen
  have HC := hide hc
  have HZ := hide hz
  have HB := hide hbad
  have hp0 : 0 < ss.length := by omega
  have hc0 : w.cell? ⟨b, off, none⟩ = some (.string ss[0]) := hc 0 hp0
  have hm' : (ss[0]).size = m := hm
  have ne0 : ((n : Int) == 0) = false := by simp; omega
  have ng : decide (4096 < (n : Int)) = false := by simp; omega
  clear hlen hc hz hbad hm
  generalize ss[0] = x0 at *
  go_enter Try.func32, Try.ntmps32
  go_wp2
  go_loopw [3] (fun i W => ∃ k : Nat, k ≤ n ∧ i = .int .i64 k ∧ (∀ s ∈ ss.take k, Vb.okV (L s) = true ∧ s.size = m) ∧ Below w.heap.size w W) (fun i _ => n - (intOf i).toNat)
  case atStart => exact ⟨0, Nat.zero_le _, rfl, by simp, brf _⟩
  case round =>
    obtain ⟨k, hk, rfl, hall, hbel⟩ := hrel
    have HA := hide hall
    clear hall
    have hc0' := cell_later hbel hc0
    by_cases hlt : k < n
    · have hks : k < ss.length := by rw [unhide HL]; exact hlt
      have hcell := cell_later hbel (unhide HC k hks)
      have hxm := unhide HZ ss[k] (List.getElem_mem hks)
      have st : ∀ s ∈ ss.take (k + 1), s ∈ ss.take k ∨ s = ss[k] := by
        intro s hs
        rw [List.take_succ_eq_append_getElem hks, List.mem_append] at hs
        rcases hs with h | h
        · exact .inl h
        · exact .inr (by simpa using h)
      have ST := hide st
      clear st
      have j1 : (0 : Int) ≤ (k : Int) := by omega
      have j2 : (k : Int) < (n : Int) := by omega
      have j3 : (0 : Int) < (n : Int) := by omega
      generalize ss[k] = x at *
      cases hox : Vb.okV (L x)
      · have HO := hide hox
        clear hox
        go_wp2_with fail
        go_quiet ((go_at_call 35; exact Calls.quiet_of_same (sOKq0 x _ hxm (unhide HO))))
        go_wp2
        go_ret
        exact ⟨rfl, below_drewN hbel _⟩
      · have HO := hide hox
        clear hox
        by_cases hxs : x.size = m
        · have hne : ((x.size : Int) != (x0.size : Int)) = false := by rw [hxs, hm']; simp
          have HXS := hide hxs
          clear hxs
          go_wp2_with fail
          go_quiet ((go_at_call 35; exact Calls.quiet_of_same (sOKq1 x _ hxm (unhide HO))))
          go_wp2
          go_roundw
          case rel =>
            refine ⟨k + 1, by omega, by go_num, ?_, below_drewN hbel _⟩
            intro s hs
            rcases unhide ST s hs with h | h
            · exact unhide HA s h
            · rw [h]; exact ⟨unhide HO, unhide HXS⟩
          case measure => simp [intOf]; omega
        · have hne : ((x.size : Int) != (x0.size : Int)) = true := by rw [hm']; simp; omega
          clear hxs
          go_wp2_with fail
          go_quiet ((go_at_call 35; exact Calls.quiet_of_same (sOKq1 x _ hxm (unhide HO))))
          go_wp2
          go_ret
          exact ⟨rfl, below_drewN hbel _⟩
    · exfalso
      have := unhide HA
      rw [List.take_of_length_le (by rw [unhide HL]; omega)] at this
      exact unhide HB this
end Go.Proofs.Ytmbllgblbdfobaa
namespace Go.Proofs.Ytmbllgblbdfobaa
open Go.RowKit
theorem sKn (s : ByteArray) (w : World) (t : Bool) (hs : s.size ≤ maxLen) (ht : (L s).all Vb.knB = t) : Calls Try.prog 47 #[.string s] w fun e w' => e = .returned (.bool t) ∧ w = w' :=
  (sKnown s w hs).mono fun _ _ ⟨h, h'⟩ => ⟨by rw [h, ht], h'.symm⟩
/-- An append of one byte to a row of bytes of one's own, as a step of a region that draws its order. -/
theorem stepB {ops : Array Oper} {o : Oper} {a : Act} {w : World} {K : Act → World → Prop} {Q : Exit → Act → World → Prop} {E : Prop} (hgd : o.guard = none) (s x : Operand)
    (ho : o.op = .call { callee := .builtin .append, args := #[s, x], argTypes := #[22, 22] }) {Z : Nat} {v : Value} {l : List UInt8} (hs : a.eval s = v) (hown : OB Z v l w) (M : Nat) (c : UInt8)
    (hx : a.eval x = .slice (some ⟨M, 0, none⟩) 1 1) (hc : w.cell? ⟨M, 0, none⟩ = some (bv c)) (h63 : l.length ≤ 1000) (hZ : Z ≤ w.heap.size)
    (h : ∀ v' w', OB Z v' (l ++ [c]) w' → w.grownBy w' v.ownBlock → K (a.put o.dst v') w') :
    if Region.wanted o (yielded ops a.tmps) = true then Oper.wp Try.prog o a w K Q else E := by
  obtain ⟨i0, hi, hz0, hz1, hz2⟩ := info_parts info5
  have hw : Region.wanted o (yielded ops a.tmps) = true := by simp [Region.wanted, hgd]
  rw [if_pos hw]
  refine wp_append_own w s x 22 ho Z 5 i0 (.int .u8 0) 1 1 Try.underlying22 hi hz0 hz1 hz2 rfl (by decide) v l.length (l.map bv) hs hown ⟨M, 0, none⟩ 1 1 [bv c] hx rfl ?_ ?_ (by unfold maxLen; omega) (by omega) hZ ?_
  · intro j u hu
    cases j with
    | zero => obtain rfl : bv c = u := by simpa using hu
              rw [Addr.add_lit]; exact hc
    | succ j => simp at hu
  · intro u hu; simp at hu; subst hu; rfl
  · intro v' w' hown' hgrow _
    exact h v' w' (OB_step hown') hgrow
theorem cell_new1 {X : World} {v : Value} {t : TypeId} {M : Nat} (hM : X.heap.size = M) : (X.alloc (.cells #[v] t)).cell? ⟨M, 0, none⟩ = some v := by
  subst hM
  rw [World.cell?_alloc_new]; rfl
theorem below_drew {B : Nat} {w W : World} (h : Below B w W) : Below B w W.drew := ⟨h.os, h.tape, h.output, h.size, h.block⟩
set_option maxRecDepth 100000 in
set_option maxHeartbeats 1000000 in
theorem sBin1 (sg : Bool) (a b : ByteArray) (n : Nat) (w : World) (ha : a.size ≤ maxLen) (hb : b.size ≤ maxLen) (va : Vb.okV (L a) = true) (vb : Vb.okV (L b) = true) (ea : a.size = n) (eb : b.size = n) :
    Calls Try.prog 28 #[.int .i64 1, .bool sg, .string a, .string b] w fun e w' => e = .returned (.string (S (List.zipWith andB (L a) (L b)))) ∧ Below w.heap.size w w' := by
  obtain ⟨i0, hi, hz0, hz1, hz2⟩ := info_parts info5
  obtain ⟨a1, a2, _⟩ := (okV_iff a).1 va
  have VA := hide va
  have VBB := hide vb
  have HA := hide ha
  have HBB := hide hb
  rw [ea] at a1 a2
  clear va vb ha hb
  generalize hkB : (L b).all Vb.knB = kB
  cases hkA : (L a).all Vb.knB
  all_goals
    have KA := hide hkA
    have KB := hide hkB
    clear hkA hkB
    go_enter Try.func28, Try.ntmps28
    go_wp2_with (first | (go_at_call_of 35 (Value.string a); refine (sOK1 a _ (unhide HA) (unhide VA)).mono ?_; rintro e w' ⟨rfl, rfl⟩) | (go_at_call_of 35 (Value.string b); refine (sOK1 b _ (unhide HBB) (unhide VBB)).mono ?_; rintro e w' ⟨rfl, rfl⟩) | (go_at_call_of 47 (Value.string a); refine (sKn a _ _ (unhide HA) (unhide KA)).mono ?_; rintro e w' ⟨rfl, rfl⟩) | (go_at_call_of 47 (Value.string b); refine (sKn b _ _ (unhide HBB) (unhide KB)).mono ?_; rintro e w' ⟨rfl, rfl⟩))
    go_loopw [10, 11] (fun v i wr => ∃ k : Nat, k ≤ n ∧ i = .int .i64 k ∧ OB w.heap.size v (List.zipWith andB ((L a).take k) ((L b).take k)) wr ∧ Below w.heap.size w wr) (fun _ i _ => n - (intOf i).toNat)
    case atStart => exact ⟨0, Nat.zero_le _, rfl, OB_start (Nat.le_refl _), bal (brf _) _⟩
    case round =>
      obtain ⟨k, hk, rfl, hown, hbel⟩ := hrel
      have hsz := hbel.size
      by_cases hlt : k < n
      · have hlta : k < a.size := by omega
        have hltb : k < b.size := by omega
        have st := zip_step andB a b k hlta hltb
        have hlen := zip_len andB a b k (by omega) (by omega)
        have ST := hide st
        clear st
        have j1 : (k : Int) < n := by omega
        go_wp2
        go_region_held3 (fun w' => Below w.heap.size w w')
          (first | assumption | exact hb2 | exact below_drew hbel | exact bal (by assumption) _)
          (first
            | (go_at_call 61; refine (sAnd _ _ _).mono ?_; rintro e w' ⟨rfl, rfl⟩)
            | (refine stepB rfl _ _ rfl rfl (World.ownsRow.alloc (w := wr.drew) hown _) _ (andB a[k] b[k]) rfl (cell_new1 (by first | rfl | (simp; done))) (by rw [hlen]; omega) (by simp; omega) ?_; intro v' w2 hown' hgrow; have hb2 := OB_below (below_drew hbel) hsz hown hgrow))
        all_goals
          go_wp2
          exact ⟨⟨k + 1, by omega, by go_num, by rw [unhide ST]; exact hown', hb2⟩, by simp [intOf]; omega⟩
      · have hcv := OB_string hown
        rw [L_take_all a k (by omega), L_take_all b k (by omega)] at hcv
        go_wp2
        go_ret
        exact ⟨rfl, hbel⟩
set_option maxRecDepth 100000 in
set_option maxHeartbeats 1000000 in
theorem sBin2 (sg : Bool) (a b : ByteArray) (n : Nat) (w : World) (ha : a.size ≤ maxLen) (hb : b.size ≤ maxLen) (va : Vb.okV (L a) = true) (vb : Vb.okV (L b) = true) (ea : a.size = n) (eb : b.size = n) :
    Calls Try.prog 28 #[.int .i64 2, .bool sg, .string a, .string b] w fun e w' => e = .returned (.string (S (List.zipWith orB (L a) (L b)))) ∧ Below w.heap.size w w' := by
  obtain ⟨i0, hi, hz0, hz1, hz2⟩ := info_parts info5
  obtain ⟨a1, a2, _⟩ := (okV_iff a).1 va
  have VA := hide va
  have VBB := hide vb
  have HA := hide ha
  have HBB := hide hb
  rw [ea] at a1 a2
  clear va vb ha hb
  generalize hkB : (L b).all Vb.knB = kB
  cases hkA : (L a).all Vb.knB
  all_goals
    have KA := hide hkA
    have KB := hide hkB
    clear hkA hkB
    go_enter Try.func28, Try.ntmps28
    go_wp2_with (first | (go_at_call_of 35 (Value.string a); refine (sOK1 a _ (unhide HA) (unhide VA)).mono ?_; rintro e w' ⟨rfl, rfl⟩) | (go_at_call_of 35 (Value.string b); refine (sOK1 b _ (unhide HBB) (unhide VBB)).mono ?_; rintro e w' ⟨rfl, rfl⟩) | (go_at_call_of 47 (Value.string a); refine (sKn a _ _ (unhide HA) (unhide KA)).mono ?_; rintro e w' ⟨rfl, rfl⟩) | (go_at_call_of 47 (Value.string b); refine (sKn b _ _ (unhide HBB) (unhide KB)).mono ?_; rintro e w' ⟨rfl, rfl⟩))
    go_loopw [10, 11] (fun v i wr => ∃ k : Nat, k ≤ n ∧ i = .int .i64 k ∧ OB w.heap.size v (List.zipWith orB ((L a).take k) ((L b).take k)) wr ∧ Below w.heap.size w wr) (fun _ i _ => n - (intOf i).toNat)
    case atStart => exact ⟨0, Nat.zero_le _, rfl, OB_start (Nat.le_refl _), bal (brf _) _⟩
    case round =>
      obtain ⟨k, hk, rfl, hown, hbel⟩ := hrel
      have hsz := hbel.size
      by_cases hlt : k < n
      · have hlta : k < a.size := by omega
        have hltb : k < b.size := by omega
        have st := zip_step orB a b k hlta hltb
        have hlen := zip_len orB a b k (by omega) (by omega)
        have ST := hide st
        clear st
        have j1 : (k : Int) < n := by omega
        go_wp2
        go_region_held3 (fun w' => Below w.heap.size w w')
          (first | assumption | exact hb2 | exact below_drew hbel | exact bal (by assumption) _)
          (first
            | (go_at_call 62; refine (sOr _ _ _).mono ?_; rintro e w' ⟨rfl, rfl⟩)
            | (refine stepB rfl _ _ rfl rfl (World.ownsRow.alloc (w := wr.drew) hown _) _ (orB a[k] b[k]) rfl (cell_new1 (by first | rfl | (simp; done))) (by rw [hlen]; omega) (by simp; omega) ?_; intro v' w2 hown' hgrow; have hb2 := OB_below (below_drew hbel) hsz hown hgrow))
        all_goals
          go_wp2
          exact ⟨⟨k + 1, by omega, by go_num, by rw [unhide ST]; exact hown', hb2⟩, by simp [intOf]; omega⟩
      · have hcv := OB_string hown
        rw [L_take_all a k (by omega), L_take_all b k (by omega)] at hcv
        go_wp2
        go_ret
        exact ⟨rfl, hbel⟩
set_option maxRecDepth 100000 in
set_option maxHeartbeats 1000000 in
theorem sBin3 (sg : Bool) (a b : ByteArray) (n : Nat) (w : World) (ha : a.size ≤ maxLen) (hb : b.size ≤ maxLen) (va : Vb.okV (L a) = true) (vb : Vb.okV (L b) = true) (ea : a.size = n) (eb : b.size = n) :
    Calls Try.prog 28 #[.int .i64 3, .bool sg, .string a, .string b] w fun e w' => e = .returned (.string (S (List.zipWith xorB (L a) (L b)))) ∧ Below w.heap.size w w' := by
  obtain ⟨i0, hi, hz0, hz1, hz2⟩ := info_parts info5
  obtain ⟨a1, a2, _⟩ := (okV_iff a).1 va
  have VA := hide va
  have VBB := hide vb
  have HA := hide ha
  have HBB := hide hb
  rw [ea] at a1 a2
  clear va vb ha hb
  generalize hkB : (L b).all Vb.knB = kB
  cases hkA : (L a).all Vb.knB
  all_goals
    have KA := hide hkA
    have KB := hide hkB
    clear hkA hkB
    go_enter Try.func28, Try.ntmps28
    go_wp2_with (first | (go_at_call_of 35 (Value.string a); refine (sOK1 a _ (unhide HA) (unhide VA)).mono ?_; rintro e w' ⟨rfl, rfl⟩) | (go_at_call_of 35 (Value.string b); refine (sOK1 b _ (unhide HBB) (unhide VBB)).mono ?_; rintro e w' ⟨rfl, rfl⟩) | (go_at_call_of 47 (Value.string a); refine (sKn a _ _ (unhide HA) (unhide KA)).mono ?_; rintro e w' ⟨rfl, rfl⟩) | (go_at_call_of 47 (Value.string b); refine (sKn b _ _ (unhide HBB) (unhide KB)).mono ?_; rintro e w' ⟨rfl, rfl⟩))
    go_loopw [10, 11] (fun v i wr => ∃ k : Nat, k ≤ n ∧ i = .int .i64 k ∧ OB w.heap.size v (List.zipWith xorB ((L a).take k) ((L b).take k)) wr ∧ Below w.heap.size w wr) (fun _ i _ => n - (intOf i).toNat)
    case atStart => exact ⟨0, Nat.zero_le _, rfl, OB_start (Nat.le_refl _), bal (brf _) _⟩
    case round =>
      obtain ⟨k, hk, rfl, hown, hbel⟩ := hrel
      have hsz := hbel.size
      by_cases hlt : k < n
      · have hlta : k < a.size := by omega
        have hltb : k < b.size := by omega
        have st := zip_step xorB a b k hlta hltb
        have hlen := zip_len xorB a b k (by omega) (by omega)
        have ST := hide st
        clear st
        have j1 : (k : Int) < n := by omega
        go_wp2
        go_region_held3 (fun w' => Below w.heap.size w w')
          (first | assumption | exact hb2 | exact below_drew hbel | exact bal (by assumption) _)
          (first
            | (go_at_call 63; refine (sXor _ _ _).mono ?_; rintro e w' ⟨rfl, rfl⟩)
            | (refine stepB rfl _ _ rfl rfl (World.ownsRow.alloc (w := wr.drew) hown _) _ (xorB a[k] b[k]) rfl (cell_new1 (by first | rfl | (simp; done))) (by rw [hlen]; omega) (by simp; omega) ?_; intro v' w2 hown' hgrow; have hb2 := OB_below (below_drew hbel) hsz hown hgrow))
        all_goals
          go_wp2
          exact ⟨⟨k + 1, by omega, by go_num, by rw [unhide ST]; exact hown', hb2⟩, by simp [intOf]; omega⟩
      · have hcv := OB_string hown
        rw [L_take_all a k (by omega), L_take_all b k (by omega)] at hcv
        go_wp2
        go_ret
        exact ⟨rfl, hbel⟩
end Go.Proofs.Ytmbllgblbdfobaa
namespace Go.Proofs.Ytmbllgblbdfobaa
open Go.RowKit
set_option linter.unusedVariables false
/-- Whether two texts are equal, letter by letter. -/
def eqL (a b : List UInt8) : UInt8 := (List.zipWith (fun x y => notB (xorB x y)) a b).foldl andB 49
theorem eqL_step (a b : ByteArray) (k : Nat) (ha : k < a.size) (hb : k < b.size) : eqL ((L a).take (k + 1)) ((L b).take (k + 1)) = andB (eqL ((L a).take k) ((L b).take k)) (notB (xorB a[k] b[k])) := by
  unfold eqL; rw [zip_step _ a b k ha hb, List.foldl_append]; rfl
set_option maxRecDepth 100000 in
set_option maxHeartbeats 1000000 in
theorem sBin9 (sg : Bool) (a b : ByteArray) (n : Nat) (w : World) (ha : a.size ≤ maxLen) (hb : b.size ≤ maxLen) (va : Vb.okV (L a) = true) (vb : Vb.okV (L b) = true) (ea : a.size = n) (eb : b.size = n) :
    Calls Try.prog 28 #[.int .i64 9, .bool sg, .string a, .string b] w fun e w' => e = .returned (.string (S ([eqL (L a) (L b)]))) ∧ Below w.heap.size w w' := by
  obtain ⟨a1, a2, a3⟩ := (okV_iff a).1 va
  obtain ⟨b1, b2, b3⟩ := (okV_iff b).1 vb
  have VA := hide va
  have VBB := hide vb
  have HA := hide ha
  have HBB := hide hb
  rw [ea] at a1 a2
  rw [eb] at b1 b2
  have A3 := hide a3
  have B3 := hide b3
  clear va vb ha hb a3 b3
  generalize hkB : (L b).all Vb.knB = kB
  cases hkA : (L a).all Vb.knB
  all_goals
    have KA := hide hkA
    have KB := hide hkB
    clear hkA hkB
    go_enter Try.func28, Try.ntmps28
    go_wp2_with (first | (go_at_call_of 35 (Value.string a); refine (sOK1 a _ (unhide HA) (unhide VA)).mono ?_; rintro e w' ⟨rfl, rfl⟩) | (go_at_call_of 35 (Value.string b); refine (sOK1 b _ (unhide HBB) (unhide VBB)).mono ?_; rintro e w' ⟨rfl, rfl⟩) | (go_at_call_of 47 (Value.string a); refine (sKn a _ _ (unhide HA) (unhide KA)).mono ?_; rintro e w' ⟨rfl, rfl⟩) | (go_at_call_of 47 (Value.string b); refine (sKn b _ _ (unhide HBB) (unhide KB)).mono ?_; rintro e w' ⟨rfl, rfl⟩))
    go_loopw [12, 13] (fun c i wr => ∃ k : Nat, k ≤ n ∧ i = .int .i64 k ∧ c = .int .u8 ((eqL ((L a).take k) ((L b).take k)).toNat : Int) ∧ Below w.heap.size w wr) (fun _ i _ => n - (intOf i).toNat)
    case atStart => exact ⟨0, Nat.zero_le _, rfl, rfl, brf _⟩
    case round =>
      obtain ⟨k, hk, rfl, rfl, hbel⟩ := hrel
      by_cases hlt : k < n
      · have hlta : k < a.size := by omega
        have hltb : k < b.size := by omega
        have st := eqL_step a b k hlta hltb
        generalize eqL ((L a).take k) ((L b).take k) = c0 at *
        have ST := hide st
        clear st
        have j1 : (k : Int) < n := by omega
        go_wp2
        go_quiet ((first | (go_at_call 61; exact Calls.quiet_of_same (sAnd _ _ _)) | (go_at_call 63; exact Calls.quiet_of_same (sXor _ _ _)) | (go_at_call 65; exact Calls.quiet_of_same (sNot _ _))))
        go_wp2
        exact ⟨⟨k + 1, by omega, by go_num, by rw [unhide ST], below_drewN hbel _⟩, by simp [intOf]; omega⟩
      · have hcv := one_string ((eqL (L a) (L b)).toNat : Int) (eqL (L a) (L b)) rfl
        rw [L_take_all a k (by omega), L_take_all b k (by omega)]
        generalize hC0 : eqL (L a) (L b) = c0 at *
        have HC0 := hide hC0
        clear hC0
        go_wp2_with (first | (go_at_call 65; refine (sNot _ _).mono ?_; rintro e w' ⟨rfl, rfl⟩))
        go_ret
        exact ⟨by rw [unhide HC0]; rfl, bal hbel _⟩
set_option maxRecDepth 100000 in
set_option maxHeartbeats 1000000 in
theorem sBin10 (sg : Bool) (a b : ByteArray) (n : Nat) (w : World) (ha : a.size ≤ maxLen) (hb : b.size ≤ maxLen) (va : Vb.okV (L a) = true) (vb : Vb.okV (L b) = true) (ea : a.size = n) (eb : b.size = n) :
    Calls Try.prog 28 #[.int .i64 10, .bool sg, .string a, .string b] w fun e w' => e = .returned (.string (S ([notB (eqL (L a) (L b))]))) ∧ Below w.heap.size w w' := by
  obtain ⟨a1, a2, a3⟩ := (okV_iff a).1 va
  obtain ⟨b1, b2, b3⟩ := (okV_iff b).1 vb
  have VA := hide va
  have VBB := hide vb
  have HA := hide ha
  have HBB := hide hb
  rw [ea] at a1 a2
  rw [eb] at b1 b2
  have A3 := hide a3
  have B3 := hide b3
  clear va vb ha hb a3 b3
  generalize hkB : (L b).all Vb.knB = kB
  cases hkA : (L a).all Vb.knB
  all_goals
    have KA := hide hkA
    have KB := hide hkB
    clear hkA hkB
    go_enter Try.func28, Try.ntmps28
    go_wp2_with (first | (go_at_call_of 35 (Value.string a); refine (sOK1 a _ (unhide HA) (unhide VA)).mono ?_; rintro e w' ⟨rfl, rfl⟩) | (go_at_call_of 35 (Value.string b); refine (sOK1 b _ (unhide HBB) (unhide VBB)).mono ?_; rintro e w' ⟨rfl, rfl⟩) | (go_at_call_of 47 (Value.string a); refine (sKn a _ _ (unhide HA) (unhide KA)).mono ?_; rintro e w' ⟨rfl, rfl⟩) | (go_at_call_of 47 (Value.string b); refine (sKn b _ _ (unhide HBB) (unhide KB)).mono ?_; rintro e w' ⟨rfl, rfl⟩))
    go_loopw [12, 13] (fun c i wr => ∃ k : Nat, k ≤ n ∧ i = .int .i64 k ∧ c = .int .u8 ((eqL ((L a).take k) ((L b).take k)).toNat : Int) ∧ Below w.heap.size w wr) (fun _ i _ => n - (intOf i).toNat)
    case atStart => exact ⟨0, Nat.zero_le _, rfl, rfl, brf _⟩
    case round =>
      obtain ⟨k, hk, rfl, rfl, hbel⟩ := hrel
      by_cases hlt : k < n
      · have hlta : k < a.size := by omega
        have hltb : k < b.size := by omega
        have st := eqL_step a b k hlta hltb
        generalize eqL ((L a).take k) ((L b).take k) = c0 at *
        have ST := hide st
        clear st
        have j1 : (k : Int) < n := by omega
        go_wp2
        go_quiet ((first | (go_at_call 61; exact Calls.quiet_of_same (sAnd _ _ _)) | (go_at_call 63; exact Calls.quiet_of_same (sXor _ _ _)) | (go_at_call 65; exact Calls.quiet_of_same (sNot _ _))))
        go_wp2
        exact ⟨⟨k + 1, by omega, by go_num, by rw [unhide ST], below_drewN hbel _⟩, by simp [intOf]; omega⟩
      · have hcv := one_string ((notB (eqL (L a) (L b))).toNat : Int) (notB (eqL (L a) (L b))) rfl
        rw [L_take_all a k (by omega), L_take_all b k (by omega)]
        generalize hC0 : eqL (L a) (L b) = c0 at *
        have HC0 := hide hC0
        clear hC0
        go_wp2_with (first | (go_at_call 65; refine (sNot _ _).mono ?_; rintro e w' ⟨rfl, rfl⟩))
        go_ret
        exact ⟨by rw [unhide HC0]; rfl, bal hbel _⟩
set_option maxRecDepth 100000 in
set_option maxHeartbeats 1000000 in
theorem sBin17 (sg : Bool) (a b : ByteArray) (n m : Nat) (w : World) (ha : a.size ≤ maxLen) (hb : b.size ≤ maxLen) (va : Vb.okV (L a) = true) (vb : Vb.okV (L b) = true) (ea : a.size = n) (eb : b.size = m) :
    Calls Try.prog 28 #[.int .i64 17, .bool sg, .string a, .string b] w fun e w' => e = .returned (.string (S ([andB (truthL (L a)) (truthL (L b))]))) ∧ Below w.heap.size w w' := by
  obtain ⟨a1, a2, a3⟩ := (okV_iff a).1 va
  obtain ⟨b1, b2, b3⟩ := (okV_iff b).1 vb
  have VA := hide va
  have VBB := hide vb
  have HA := hide ha
  have HBB := hide hb
  rw [ea] at a1 a2
  rw [eb] at b1 b2
  have A3 := hide a3
  have B3 := hide b3
  clear va vb ha hb a3 b3
  generalize hkB : (L b).all Vb.knB = kB
  cases hkA : (L a).all Vb.knB
  all_goals
    have KA := hide hkA
    have KB := hide hkB
    clear hkA hkB
    go_enter Try.func28, Try.ntmps28
    have hta : truthL (L a) = truthL (L a) := rfl
    generalize hx : truthL (L a) = x at *
    generalize hy : truthL (L b) = y at *
    have HX := hide hx
    have HY := hide hy
    clear hx hy hta
    have hcv := one_string ((andB x y).toNat : Int) (andB x y) rfl
    go_wp2_with (first | (go_at_call_of 35 (Value.string a); refine (sOK1 a _ (unhide HA) (unhide VA)).mono ?_; rintro e w' ⟨rfl, rfl⟩) | (go_at_call_of 35 (Value.string b); refine (sOK1 b _ (unhide HBB) (unhide VBB)).mono ?_; rintro e w' ⟨rfl, rfl⟩) | (go_at_call_of 47 (Value.string a); refine (sKn a _ _ (unhide HA) (unhide KA)).mono ?_; rintro e w' ⟨rfl, rfl⟩) | (go_at_call_of 47 (Value.string b); refine (sKn b _ _ (unhide HBB) (unhide KB)).mono ?_; rintro e w' ⟨rfl, rfl⟩) | (go_at_call_of 66 (Value.string a); refine (sTr a _ _ (unhide HA) (unhide HX)).mono ?_; rintro e w' ⟨rfl, rfl⟩) | (go_at_call_of 66 (Value.string b); refine (sTr b _ _ (unhide HBB) (unhide HY)).mono ?_; rintro e w' ⟨rfl, rfl⟩) | (go_at_call 61; refine (sAnd _ _ _).mono ?_; rintro e w' ⟨rfl, rfl⟩))
    go_ret
    exact ⟨rfl, bal (brf _) _⟩
set_option maxRecDepth 100000 in
set_option maxHeartbeats 1000000 in
theorem sBin18 (sg : Bool) (a b : ByteArray) (n m : Nat) (w : World) (ha : a.size ≤ maxLen) (hb : b.size ≤ maxLen) (va : Vb.okV (L a) = true) (vb : Vb.okV (L b) = true) (ea : a.size = n) (eb : b.size = m) :
    Calls Try.prog 28 #[.int .i64 18, .bool sg, .string a, .string b] w fun e w' => e = .returned (.string (S ([orB (truthL (L a)) (truthL (L b))]))) ∧ Below w.heap.size w w' := by
  obtain ⟨a1, a2, a3⟩ := (okV_iff a).1 va
  obtain ⟨b1, b2, b3⟩ := (okV_iff b).1 vb
  have VA := hide va
  have VBB := hide vb
  have HA := hide ha
  have HBB := hide hb
  rw [ea] at a1 a2
  rw [eb] at b1 b2
  have A3 := hide a3
  have B3 := hide b3
  clear va vb ha hb a3 b3
  generalize hkB : (L b).all Vb.knB = kB
  cases hkA : (L a).all Vb.knB
  all_goals
    have KA := hide hkA
    have KB := hide hkB
    clear hkA hkB
    go_enter Try.func28, Try.ntmps28
    have hta : truthL (L a) = truthL (L a) := rfl
    generalize hx : truthL (L a) = x at *
    generalize hy : truthL (L b) = y at *
    have HX := hide hx
    have HY := hide hy
    clear hx hy hta
    have hcv := one_string ((orB x y).toNat : Int) (orB x y) rfl
    go_wp2_with (first | (go_at_call_of 35 (Value.string a); refine (sOK1 a _ (unhide HA) (unhide VA)).mono ?_; rintro e w' ⟨rfl, rfl⟩) | (go_at_call_of 35 (Value.string b); refine (sOK1 b _ (unhide HBB) (unhide VBB)).mono ?_; rintro e w' ⟨rfl, rfl⟩) | (go_at_call_of 47 (Value.string a); refine (sKn a _ _ (unhide HA) (unhide KA)).mono ?_; rintro e w' ⟨rfl, rfl⟩) | (go_at_call_of 47 (Value.string b); refine (sKn b _ _ (unhide HBB) (unhide KB)).mono ?_; rintro e w' ⟨rfl, rfl⟩) | (go_at_call_of 66 (Value.string a); refine (sTr a _ _ (unhide HA) (unhide HX)).mono ?_; rintro e w' ⟨rfl, rfl⟩) | (go_at_call_of 66 (Value.string b); refine (sTr b _ _ (unhide HBB) (unhide HY)).mono ?_; rintro e w' ⟨rfl, rfl⟩) | (go_at_call 62; refine (sOr _ _ _).mono ?_; rintro e w' ⟨rfl, rfl⟩))
    go_ret
    exact ⟨rfl, bal (brf _) _⟩
set_option maxRecDepth 100000 in
set_option maxHeartbeats 1000000 in
theorem sBin11 (sg : Bool) (a b : ByteArray) (n : Nat) (w : World) (ha : a.size ≤ maxLen) (hb : b.size ≤ maxLen) (va : Vb.okV (L a) = true) (vb : Vb.okV (L b) = true) (ea : a.size = n) (eb : b.size = n) :
    Calls Try.prog 28 #[.int .i64 11, .bool sg, .string a, .string b] w fun e w' => e = .returned (.string (S ([bl (decide (L a = L b))]))) ∧ Below w.heap.size w w' := by
  obtain ⟨a1, a2, a3⟩ := (okV_iff a).1 va
  obtain ⟨b1, b2, b3⟩ := (okV_iff b).1 vb
  have VA := hide va
  have VBB := hide vb
  have HA := hide ha
  have HBB := hide hb
  rw [ea] at a1 a2
  rw [eb] at b1 b2
  have A3 := hide a3
  have B3 := hide b3
  clear va vb ha hb a3 b3
  generalize hkB : (L b).all Vb.knB = kB
  cases hkA : (L a).all Vb.knB
  all_goals
    have KA := hide hkA
    have KB := hide hkB
    clear hkA hkB
    go_enter Try.func28, Try.ntmps28
    by_cases hab : a = b
    · subst hab
      have hd : decide (L a = L a) = true := by simp
      rw [hd]
      go_wp2_with (first | (go_at_call_of 35 (Value.string a); refine (sOK1 a _ (unhide HA) (unhide VA)).mono ?_; rintro e w' ⟨rfl, rfl⟩) | (go_at_call_of 35 (Value.string b); refine (sOK1 b _ (unhide HBB) (unhide VBB)).mono ?_; rintro e w' ⟨rfl, rfl⟩) | (go_at_call_of 47 (Value.string a); refine (sKn a _ _ (unhide HA) (unhide KA)).mono ?_; rintro e w' ⟨rfl, rfl⟩) | (go_at_call_of 47 (Value.string b); refine (sKn b _ _ (unhide HBB) (unhide KB)).mono ?_; rintro e w' ⟨rfl, rfl⟩) | (go_at_call 64; refine (sBit _ _).mono ?_; rintro e w' ⟨rfl, rfl⟩))
      go_ret
      exact ⟨rfl, brf _⟩
    · have hd : decide (L a = L b) = false := decide_eq_false (fun h => hab (L_inj h))
      rw [hd]
      have hq : (a.toList == b.toList) = false := by
        rw [ByteArray.toList_eq, ByteArray.toList_eq, beq_eq_false_iff_ne]
        exact fun h => hab (L_inj h)
      go_wp2_with (first | (go_at_call_of 35 (Value.string a); refine (sOK1 a _ (unhide HA) (unhide VA)).mono ?_; rintro e w' ⟨rfl, rfl⟩) | (go_at_call_of 35 (Value.string b); refine (sOK1 b _ (unhide HBB) (unhide VBB)).mono ?_; rintro e w' ⟨rfl, rfl⟩) | (go_at_call_of 47 (Value.string a); refine (sKn a _ _ (unhide HA) (unhide KA)).mono ?_; rintro e w' ⟨rfl, rfl⟩) | (go_at_call_of 47 (Value.string b); refine (sKn b _ _ (unhide HBB) (unhide KB)).mono ?_; rintro e w' ⟨rfl, rfl⟩) | (go_at_call 64; refine (sBit _ _).mono ?_; rintro e w' ⟨rfl, rfl⟩))
      go_ret
      exact ⟨rfl, brf _⟩
end Go.Proofs.Ytmbllgblbdfobaa
