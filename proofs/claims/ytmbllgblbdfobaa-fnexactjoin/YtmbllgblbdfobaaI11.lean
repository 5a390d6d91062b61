/- What the program's Join answers. -/
import Derived.Test.YtmbllgblbdfobaaL1
import Derived.Test.YtmbllgblbdfobaaIT
import Derived.Test.YtmbllgblbdfobaaS11
namespace Go.Proofs.Ytmbllgblbdfobaa
open Go.RowKit
theorem row_full (l : List UInt8) : (row l l.length).toList = l.map bv ++ List.replicate (64 - l.length) (bv 0) := by
  unfold row; rw [List.take_length]; simp [bv]
theorem run_copy_str (W : World) (acc : List UInt8) (s : ByteArray) (g : Nat) (hg : W.heap[g]? = some (.cells (row acc acc.length) 79 (0, 0))) (h : acc.length + s.size ≤ 64) (ty : TypeId) :
    (Builtin.copy_ #[22, 9] ty #[.slice (some ⟨g, acc.length, none⟩) (64 - acc.length) (64 - acc.length), .string s]).run Try.prog W = .ok (goInt s.size) (W.setRow g (row (acc ++ L s) (acc ++ L s).length)) := by
  have hsz : (row acc acc.length).size = 64 := by rw [← Array.length_toList, row_full]; simp; omega
  have hst := run_storeCells_at Try.prog g acc.length 79 ((L s).map bv) 0 (row acc acc.length) _ hg (by rw [hsz, List.length_map, L_len]; omega) (by intro v hv; obtain ⟨c, _, rfl⟩ := List.mem_map.1 hv; rfl)
  have hrow : ((row acc acc.length).toList.take (acc.length + 0) ++ (L s).map bv ++ (row acc acc.length).toList.drop (acc.length + 0 + ((L s).map bv).length)).toArray = row (acc ++ L s) (acc ++ L s).length := by
    apply Array.toList_inj.1
    rw [row_full, row_full]
    simp only [Nat.add_zero, List.length_map, L_len, List.length_append, List.map_append, List.append_assoc]
    rw [List.take_append_of_le_length (by simp), List.take_of_length_le (by simp), List.drop_append, List.drop_of_length_le (by simp), List.nil_append, List.drop_replicate, List.length_map, show 64 - acc.length - (acc.length + s.size - acc.length) = 64 - (acc.length + s.size) by omega]
  rw [hrow] at hst
  have hu : Try.prog.underlying 22 = some (.slice 5) := by kernel_rfl
  have hs1 : (Try.prog.info? 5).map (·.size) = some 1 := by kernel_rfl
  cases hq : Try.prog.info? 5 with
  | none => simp [hq] at hs1
  | some i =>
    have hi : i.size = 1 := by simpa [hq] using hs1
    have he : List.take s.size (List.map (fun b : UInt8 => Value.int .u8 (b.toNat : Int)) s.data.toList) = (L s).map bv := by
      rw [List.take_of_length_le (by simp)]; rfl
    have hm : Nat.min s.size (64 - acc.length) = s.size := Nat.min_eq_left (by omega)
    rw [List.length_append] at hst
    simp [Builtin.copy_, run_underlying hu, Builtin.lenOf, Builtin.firstCells, sizeOf, typeInfo, hq, hm, he, hst]
theorem row_back (W : World) (l : List UInt8) (g : Nat) (hg : W.heap[g]? = some (.cells (row l l.length) 79 (0, 0))) :
    (convert 22 9 (.slice (some ⟨g, 0, none⟩) l.length 64)).run Try.prog W = .ok (.string (S l)) W := by
  refine run_convert_bytes_back (P := Try.prog) W 22 9 5 ⟨g, 0, none⟩ 64 l (by kernel_rfl) (by kernel_rfl) (by kernel_rfl) ?_
  intro j hj
  rw [Addr.add_lit, Nat.zero_add, cell_of_row W g j _ 79 (0, 0) hg]
  exact row_get _ _ _ hj hj
theorem below_setRow {w W : World} (h : Below w.heap.size w W) (cs : Array Value) : Below w.heap.size w (W.setRow w.heap.size cs) :=
  h.trans ⟨rfl, rfl, rfl, by simp [World.setRow], fun k hk => by
    unfold World.setRow
    show ((W.heap.modify w.heap.size _)[k]?) = _
    rw [Array.getElem?_modify, if_neg (by omega)]⟩
set_option maxRecDepth 100000 in
set_option maxHeartbeats 400000 in
theorem iJoin (a : Option Addr) (n cap : Nat) (ss : List ByteArray) (w : World) (hS : SL a n ss w) (hn : n ≤ 1048576) (hz : ∀ s ∈ ss, s.size ≤ 1048576) :
    Calls Try.prog 23 #[.slice a n cap] w fun e w' => e = .returned (.string (S (joinL [] ss))) ∧ Below w.heap.size w w' := by
  obtain ⟨hlen, hS⟩ := hS
  have HL := hide hlen
  clear hlen
  rcases hS with rfl | ⟨b, off, rfl, hc⟩
  · have HE : Hid (ss = []) := List.eq_nil_of_length_eq_zero (unhide HL)
    go_enter Try.func23, Try.ntmps23
    go_wp2
    go_loopw [4, 9] (fun o i W => i = .int .i64 0 ∧ o = .int .i64 0 ∧ W.heap[w.heap.size]? = some (.cells (row [] 0) 79 (0, 0)) ∧ Below w.heap.size w W) (fun _ _ _ => 0)
    case atStart => exact ⟨rfl, rfl, heap_alloc_new _ _, bal (brf _) _⟩
    case round =>
      obtain ⟨rfl, rfl, hg, hbel⟩ := hrel
      have hcv : ∀ c : Nat, c = 64 → (convert 22 9 (.slice (some ⟨w.heap.size, 0, none⟩) 0 c)).run Try.prog wr = .ok (.string (S [])) wr := by
        intro c hc; subst hc; exact row_back _ [] w.heap.size hg
      have hcv := hcv 64 rfl
      clear hg
      go_wp2
      go_ret
      exact ⟨by rw [unhide HE]; rfl, hbel⟩
  · have HC := hide hc
    have HZ := hide hz
    clear hc hz
    go_enter Try.func23, Try.ntmps23
    go_wp2
    go_loopw [4, 9] (fun o i W => ∃ k : Nat, k ≤ n ∧ i = .int .i64 k ∧ ∃ acc : List UInt8, o = .int .i64 acc.length ∧ acc.length ≤ 64 ∧ joinL [] ss = joinL acc (ss.drop k) ∧ W.heap[w.heap.size]? = some (.cells (row acc acc.length) 79 (0, 0)) ∧ Below w.heap.size w W) (fun _ i _ => n - (intOf i).toNat)
    case atStart => exact ⟨0, Nat.zero_le _, rfl, [], rfl, by simp, rfl, heap_alloc_new _ _, bal (brf _) _⟩
    case round =>
      obtain ⟨k, hk, rfl, acc, rfl, hacc, hj, hg, hbel⟩ := hrel
      have HG := hide hg
      clear hg
      by_cases hlt : k < n
      · have hks : k < ss.length := by rw [unhide HL]; exact hlt
        have hcell := cell_later hbel (unhide HC k hks)
        have hsz := unhide HZ ss[k] (List.getElem_mem hks)
        rw [List.drop_eq_getElem_cons hks, joinL] at hj
        generalize ss[k] = x at *
        cases hok : Vb.okV (L x)
        · rw [hok] at hj
          have HJ : Hid (joinL [] ss = []) := by show _ = _; rw [hj]; rfl
          have HO := hide hok
          clear hj hok
          go_wp2_with fail
          refine (iBitsOK x _ (by unfold maxLen; omega)).mono ?_
          rw [unhide HO]
          rintro e w1 ⟨rfl, hb1⟩
          go_wp2
          go_ret
          exact ⟨by rw [unhide HJ]; rfl, btr hbel hb1⟩
        · rw [hok, Bool.true_and] at hj
          have HO := hide hok
          clear hok
          by_cases hfit : acc.length + x.size ≤ 64
          · rw [if_pos (by simpa using hfit)] at hj
            have HJ := hide hj
            clear hj
            go_wp2_with fail
            refine (iBitsOK x _ (by unfold maxLen; omega)).mono ?_
            rw [unhide HO]
            rintro e w1 ⟨rfl, hb1⟩
            have hlt0 : w.heap.size < wr.heap.size := (Array.getElem?_eq_some_iff.1 (unhide HG)).1
            have hg1 : w1.heap[w.heap.size]? = some (.cells (row acc acc.length) 79 (0, 0)) := by rw [hb1.block _ hlt0]; exact unhide HG
            have hcp := run_copy_str w1 acc x w.heap.size hg1 hfit
            have hx1 := ((okV_iff x).1 (unhide HO)).1
            have h64 : (acc.length : Int) ≤ 64 := by omega
            have h64b : ¬ (64 : Nat) = acc.length := by omega
            have h64c : ¬ acc.length = 64 := by omega
            have HG1 := hide hg1
            clear hg1
            go_wp2
            have hl2 : (acc ++ L x).length = acc.length + (L x).length := List.length_append
            refine ⟨⟨k + 1, by omega, by go_num, acc ++ L x, congrArg (Value.int .i64) (by rw [hl2, L_len]; omega), by rw [hl2, L_len]; exact hfit, unhide HJ, ?_, below_setRow (btr hbel hb1) _⟩, by simp [intOf]; omega⟩
            rw [hl2]
            exact setRow_heap w1 w.heap.size _ _ 79 (0, 0) (unhide HG1)
          · rw [if_neg (by simpa using hfit)] at hj
            have HJ := hide hj
            clear hj
            go_wp2_with fail
            refine (iBitsOK x _ (by unfold maxLen; omega)).mono ?_
            rw [unhide HO]
            rintro e w1 ⟨rfl, hb1⟩
            go_wp2
            go_ret
            exact ⟨by rw [unhide HJ]; rfl, btr hbel hb1⟩
      · have HJ : Hid (joinL [] ss = acc) := by
          show _ = _
          rw [hj, List.drop_of_length_le (by rw [unhide HL]; omega)]; rfl
        have hcv := row_back _ acc w.heap.size (unhide HG)
        clear hj
        have h64 : (acc.length : Int) ≤ 64 := by omega
        go_wp2
        go_ret
        exact ⟨by rw [unhide HJ]; rfl, hbel⟩
set_option maxRecDepth 100000 in
set_option maxHeartbeats 400000 in
theorem lJoin (a : Option Addr) (n cap : Nat) (ss : List ByteArray) (w : World) (hS : SL a n ss w) (hn : n ≤ maxLen) (hz : ∀ s ∈ ss, s.size ≤ maxLen) :
    Calls Try.prog 11 #[.slice a n cap] w fun e w' => e = .returned (.bool true) ∧ Below w.heap.size w w' := by
  go_enter Try.func11, Try.ntmps11
  go_wp2_with fail
  refine (szS a n cap ss _ hS hn hz).mono ?_
  rintro e w1 ⟨⟨r, rfl, hr⟩, rfl⟩
  have HR := hide hr
  clear hr
  by_cases hneg : r < 0
  · go_wp2
    go_ret
    exact ⟨rfl, brf _⟩
  · obtain ⟨hn2, hz2⟩ := unhide HR (by omega)
    have HZ := hide hz2
    have HZ1 := hide hz
    clear hz hz2 HR
    go_wp2_with fail
    refine (toS a n cap ss _ hS hn2).mono ?_
    rintro e w2 ⟨rfl, rfl⟩
    go_wp2_with fail
    refine (sJoin _ n n ss _ (SL_made ss n w hS.1) hn2 (unhide HZ)).mono ?_
    rintro e w3 ⟨rfl, rfl⟩
    have hb1 : Below w.heap.size w (w.alloc (.cells (srow ss n n) 9)) := bal (brf w) _
    have S1 := SL_later hb1 hS
    generalize w.alloc (.cells (srow ss n n) 9) = w1 at *
    go_wp2_with fail
    refine (toS a n cap ss _ S1 hn2).mono ?_
    rintro e w2 ⟨rfl, rfl⟩
    have S2 := SL_made ss n w1 hS.1
    have S3 := SL_later (bal (brf w1) (.cells (srow ss n n) 9)) S1
    have hb2 : Below w.heap.size w (w1.alloc (.cells (srow ss n n) 9)) := bal hb1 _
    generalize w1.alloc (.cells (srow ss n n) 9) = w2 at *
    go_wp2_with fail
    refine (iJoin _ n n ss _ S2 hn2 (unhide HZ)).mono ?_
    rintro e w3 ⟨rfl, hb3⟩
    have S4 := SL_later hb3 S2
    have S5 := SL_later hb3 S3
    have hb4 := btr hb2 hb3
    generalize S (joinL [] ss) = J
    go_wp2_with fail
    refine (toS a n cap ss _ S5 hn2).mono ?_
    rintro e w4 ⟨rfl, rfl⟩
    have S6 := SL_made ss n w3 hS.1
    have S7 := SL_later (bal (brf w3) (.cells (srow ss n n) 9)) S4
    have hb5 : Below w.heap.size w (w3.alloc (.cells (srow ss n n) 9)) := bal hb4 _
    generalize w3.alloc (.cells (srow ss n n) 9) = w4 at *
    go_wp2_with fail
    refine (eqS _ _ n n n ss _ S7 S6 hn2).mono ?_
    rintro e w5 ⟨rfl, hb6⟩
    go_wp2
    go_ret
    exact ⟨rfl, btr hb5 hb6⟩
end Go.Proofs.Ytmbllgblbdfobaa
