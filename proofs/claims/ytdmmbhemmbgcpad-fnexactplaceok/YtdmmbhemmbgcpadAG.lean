/- slices.Grow of nothing and slices.Concat, of ints and of strings. -/
import Derived.Test.YtdmmbhemmbgcpadNF2
import Derived.Test.YtdmmbhemmbgcpadN2
import Derived.Lib.AppendZeros
namespace Go.Proofs.Ytdmmbhemmbgcpad
open Go.RowKit Gs
set_option linter.unusedVariables false
set_option maxRecDepth 100000
theorem OI.any {B : Nat} {v : Value} {xs : List Int} {W : World} (h : OI B W v xs) (hl : xs.length ≤ 4194304) : RS 1 RInt W 0 xs v := (h.read (by unfold maxLen; omega)).low RInt.lowers (Nat.zero_le _)
theorem ints_one (ys : List Int) : ∀ u ∈ ys.map (fun x => Value.int .i64 x), u.oneCell' = true := by
  intro u hu
  obtain ⟨s, _, rfl⟩ := List.mem_map.1 hu
  rfl
/-- Ints are appended, whatever slice they lie in. -/
theorem wpAppI {ops : Array Oper} {rest : List Oper} {o : Oper} {a : Act} {Q : Exit → Act → World → Prop} {w : World} (hg : o.guard = none) (s x : Operand) (hop : o.op = Op.call { callee := Callee.builtin Builtin.append, args := #[s, x], argTypes := #[29, 29] })
    (B : Nat) (v : Value) (xs : List Int) (hs : a.eval s = v) (hown : OI B w v xs) (xv : Value) (ys : List Int) (hx : a.eval x = xv) (hr : RS 1 RInt w 0 ys xv) (hlen : xs.length + ys.length ≤ 4194304) (hB : B ≤ w.heap.size)
    (hK : ∀ v' w', OI B w' v' (xs ++ ys) → w.grownBy w' v.ownBlock → wpList Try.prog ops Q rest (a.put o.dst v') w') : wpList Try.prog ops Q (o :: rest) a w := by
  obtain ⟨i0, hi, hz0, hz1, hz2⟩ := info_parts info3
  rcases hr.open with ⟨rfl, ad, c, rfl⟩ | ⟨b, off, c, rfl, hc, hn, _, hcs⟩
  · obtain ⟨sa, sl, sc, rfl, hle⟩ : ∃ sa sl sc, v = .slice sa sl sc ∧ sl ≤ sc := by
      rcases hown.2 with ⟨rfl, _⟩ | ⟨g, cap, cur, rfl, _, _, h, _⟩
      · exact ⟨_, _, _, rfl, Nat.le_refl _⟩
      · exact ⟨_, _, _, rfl, h⟩
    have hS : Src Try.prog i0.size 29 (.slice ad 0 c) 0 [] w := by
      cases ad with
      | none => exact Src.ofNil w Try.underlying29 c
      | some ad => exact Src.ofSlice w Try.underlying29 ad 0 c [] (by simp) (fun j u h => by simp at h) (fun _ h => by cases h)
    have hrun := run_append_nothing (P := Try.prog) w 29 29 o.type 3 i0 Try.underlying29 hi sa sl sc hle _ hS
    refine wpList_plain hg fun K hK' => ?_
    unfold Oper.wp
    simp [execOp, hop, resolve, invoke, builtin, hs, hx, hrun, Result.andThen]
    exact hK' _ _ (hK _ w (by simpa using hown) (World.grownBy.refl _ _))
  · refine wpList_append_own _ hg s x 29 hop B 3 i0 (.int .i64 0) 1 8 Try.underlying29 hi hz0 hz1 hz2 rfl (by decide) v xs.length (xs.map fun x => Value.int .i64 x) hs hown ⟨b, off, none⟩ ys.length c (ys.map fun x => Value.int .i64 x) hx (by simp) ?_ (ints_one ys) (by unfold maxLen; omega) (by omega) hB ?_
    · intro j u hj
      rw [List.getElem?_map, Option.map_eq_some_iff] at hj
      obtain ⟨y, hy, rfl⟩ := hj
      obtain ⟨u, hul, hat, hu⟩ := hcs j y hy
      subst hu
      have := hat.get (j := 0) rfl
      rw [Addr.add_lit]
      simpa using this
    · intro v' w' ho hgr _
      refine hK v' w' ?_ hgr
      unfold OI
      rw [List.length_append, List.map_append]; exact ho
theorem sum_take {α : Type} (xss : List (List α)) (k : Nat) (x : List α) (h : xss[k]? = some x) : ((xss.take (k + 1)).map List.length).sum = ((xss.take k).map List.length).sum + x.length := by
  rw [List.take_add_one, h, List.map_append, List.sum_append]; simp
theorem sum_le {α : Type} (xss : List (List α)) (k : Nat) : ((xss.take k).map List.length).sum ≤ (xss.map List.length).sum := by
  have : (xss.map List.length).sum = ((xss.take k).map List.length).sum + ((xss.drop k).map List.length).sum := by rw [← List.sum_append, ← List.map_append, List.take_append_drop]
  omega
theorem flat_take {α : Type} (xss : List (List α)) (k : Nat) (x : List α) (h : xss[k]? = some x) : (xss.take (k + 1)).flatten = (xss.take k).flatten ++ x := by
  rw [List.take_add_one, h, List.flatten_append]; simp
theorem flat_len {α : Type} (xss : List (List α)) : xss.flatten.length = (xss.map List.length).sum := by rw [List.length_flatten]
set_option maxHeartbeats 1600000 in
theorem iGrowS (n : Nat) (w : World) (hn : n ≤ 4194304) : Calls Try.prog 64 #[.slice none 0 0, .int .i64 (n : Int)] w fun e w' => (∃ v', e = .returned v' ∧ OS w.heap.size w' v' []) ∧ Below w.heap.size w w' := by
  obtain ⟨i0, hi, hz0, hz1, hz2⟩ := info_parts info9
  by_cases h0 : n = 0
  · subst h0
    go_enter Try.func64, Try.ntmps64
    go_wp2
    exact bodyPost_ret (v := .slice none 0 0) (by simp [results, Try.results64, go_sem]) rfl ⟨⟨_, rfl, OS_nil _ _⟩, brf _⟩
  · have hrun := fun ty => Lib.run_append_nil_zeros (P := Try.prog) w 22 3 ty 9 i0 (.string ByteArray.empty) .i64 .i64 Try.underlying22 Try.underlying3 hi hz0 n (by omega) (by omega) (by omega) (by rw [hz2]; omega)
    obtain ⟨C, hC⟩ : ∃ C, grownCap w n 0 9 = C := ⟨_, rfl⟩
    have hC1 : n ≤ C := by rw [← hC]; exact grownCap_ge w _ _ _
    have hC2 : C ≤ maxLen := by rw [← hC]; exact grownCap_le_maxLen w _ _ _ (by unfold maxLen; omega)
    rw [hC] at hrun
    have HS := hide (show (Builtin.zeroCells (Value.cells (.string ByteArray.empty)) n ++ Builtin.zeroCells (Value.cells (.string ByteArray.empty)) (C - n)).size = C * 1 by simp [size_zeroCells, Value.cells]; omega)
    generalize Builtin.zeroCells (Value.cells (.string ByteArray.empty)) n ++ Builtin.zeroCells (Value.cells (.string ByteArray.empty)) (C - n) = M at hrun HS
    have HC2 := hide hC2
    have hC3 : C ≤ 9223372036854775807 := by unfold maxLen at hC2; omega
    have hp : (0 : Int) < (n : Int) := by omega
    clear hi hz0 hz1 hz2 hC hC2
    go_enter Try.func64, Try.ntmps64
    go_wp2_with (first | (at_builtin; refine Lib.wpList_append_run _ rfl _ _ 22 3 rfl _ _ rfl rfl _ _ (hrun _) ?_))
    refine bodyPost_ret (v := .slice (some ⟨w.heap.size, 0, none⟩) 0 C) (by simp [results, Try.results64, go_sem]) rfl ⟨⟨_, rfl, ?_⟩, bal (bdr (brf w)) _⟩
    refine ⟨ World.ownsRow_made (w := w.drew) M C (Nat.le_refl _) (unhide HC2) (unhide HS), fun _ h => by cases h⟩
set_option maxHeartbeats 3200000 in
theorem iConcatS (xss : List (List ByteArray)) (v : Value) (w : World) (hn : xss.length ≤ 1048576) (hl : (xss.map List.length).sum ≤ 4194304) (hr : RS 1 (RL 1 RStr) w 0 xss v) :
    Calls Try.prog 56 #[v] w fun e w' => (∃ v', e = .returned v' ∧ OS w.heap.size w' v' xss.flatten) ∧ Below w.heap.size w w' := by
  rcases hr.open with ⟨rfl, a, c, rfl⟩ | ⟨b, o, c, rfl, hc, hnm, _, hcs⟩
  · clear hr
    go_enter Try.func56, Try.ntmps56
    go_wp2
    refine wp_loop_rounds 1 ?_
    rw [rounds_succ]
    go_wp2_with (first | (go_at_call 64; refine (iGrowS 0 _ (by omega)).mono ?_; rintro e W1 ⟨⟨v1, rfl, ho⟩, hb1⟩; have HO := hide ho; have HB := hide hb1; clear ho hb1))
    refine wp_loop_rounds 1 ?_
    rw [rounds_succ]
    go_wp2
    exact bodyPost_ret (v := v1) (by simp [results, Try.results56, go_sem]) rfl ⟨⟨_, rfl, unhide HO⟩, unhide HB⟩
  · have HC := hide hcs
    clear hcs hr hnm
    go_enter Try.func56, Try.ntmps56
    go_wp2
    go_loop [3, 11] (fun s i => ∃ k : Nat, k ≤ xss.length ∧ i = .int .i64 k ∧ s = .int .i64 ((((xss.take k).map List.length).sum : Nat) : Int)) (fun s i => xss.length - (intOf i).toNat)
    case atStart => exact ⟨0, Nat.zero_le _, rfl, rfl⟩
    case round =>
      obtain ⟨k, hk, rfl, rfl⟩ := hrel
      by_cases hlt : k < xss.length
      · have hx : xss[k]? = some xss[k] := List.getElem?_eq_getElem hlt
        generalize xss[k] = x at hx
        have hst := sum_take xss k x hx
        have hle := sum_le xss (k + 1)
        obtain ⟨u, hul, hat, ve, rfl, hve⟩ := unhide HC k x hx
        obtain ⟨ae, ce, rfl⟩ := hve.slice
        have k0 := hat.get (j := 0) rfl
        simp only [Nat.add_zero, Nat.mul_one] at k0
        clear hat hul HC hve
        generalize hS : ((xss.take k).map List.length).sum = S at *
        obtain ⟨S2, hS2⟩ : ∃ S2 : Nat, S2 = S + x.length := ⟨_, rfl⟩
        have q1 : (S : Int) + (x.length : Int) = (S2 : Int) := by omega
        have q2 : ¬ ((S2 : Int) < 0) := by omega
        have HH := hide hst
        have HH2 := hide hS2
        have HS2 : Hid (S2 ≤ 4194304) := hide (by omega)
        have hS3 : S2 ≤ 4194304 := by omega
        clear hst hS2 hS hle
        go_wp2
        go_round
        case rel => exact ⟨k + 1, by omega, by go_num, by rw [unhide HH, ← unhide HH2]⟩
        case measure => simp [intOf]; omega
      · obtain rfl : k = xss.length := by omega
        have ht : ((xss.take xss.length).map List.length).sum = (xss.map List.length).sum := by rw [List.take_of_length_le (Nat.le_refl _)]
        rw [ht]
        clear ht
        have HL := hide hl
        go_wp2_with (first | (go_at_call 64; refine (iGrowS _ _ (unhide HL)).mono ?_; rintro e W1 ⟨⟨v1, rfl, ho⟩, hb1⟩; have HO := hide ho; have HB := hide hb1; clear ho hb1))
        go_loopw [6, 27] (fun r i wr => ∃ k : Nat, k ≤ xss.length ∧ i = .int .i64 k ∧ OS w.heap.size wr r (xss.take k).flatten ∧ Below w.heap.size w wr) (fun r i wr => xss.length - (intOf i).toNat)
        case atStart => exact ⟨0, Nat.zero_le _, rfl, unhide HO, unhide HB⟩
        case round =>
          clear HO HB
          obtain ⟨k, hk, rfl, hown, hb⟩ := hrel
          have HO := hide hown
          have HB := hide hb
          by_cases hlt : k < xss.length
          · have hx : xss[k]? = some xss[k] := List.getElem?_eq_getElem hlt
            generalize xss[k] = x at hx
            have HST := hide (flat_take xss k x hx)
            have HLE := hide (show (xss.take k).flatten.length + x.length ≤ 4194304 by
              have h1 := sum_take xss k x hx
              have h2 := sum_le xss (k + 1)
              have h3 := flat_len (xss.take k)
              omega)
            obtain ⟨u, hul, hat, ve, rfl, hve⟩ := unhide HC k x hx
            have HV := hide (hve.later RStr.keeps hb)
            obtain ⟨ae, ce, rfl⟩ := hve.slice
            have k0 := cell_later hb (hat.get (j := 0) rfl)
            simp only [Nat.add_zero, Nat.mul_one] at k0
            have HSZ := hide hb.size
            clear hat hul HC hve hown hb hx
            go_wp2_with (first | (at_builtin; refine wpAppS rfl _ _ rfl w.heap.size _ _ rfl (unhide HO) _ x rfl (unhide HV) (unhide HLE) (unhide HSZ) ?_; intro v2 w2 ho2 hg2))
            have R2 := below_grown (unhide HB) hg2 (unhide HSZ) (own_row (unhide HO).1)
            go_roundw
            case rel => exact ⟨k + 1, by omega, by go_num, by rw [unhide HST]; exact ho2, R2⟩
            case measure => simp [intOf]; omega
          · obtain rfl : k = xss.length := by omega
            have ht : (xss.take xss.length).flatten = xss.flatten := by rw [List.take_of_length_le (Nat.le_refl _)]
            rw [ht] at HO
            clear hown hb HC ht
            go_wp2
            exact bodyPost_ret (v := u6) (by simp [results, Try.results56, go_sem]) rfl ⟨⟨_, rfl, unhide HO⟩, unhide HB⟩
end Go.Proofs.Ytdmmbhemmbgcpad
