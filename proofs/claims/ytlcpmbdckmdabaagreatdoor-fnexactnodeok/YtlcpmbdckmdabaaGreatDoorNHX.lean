/- Sets of kinds in the program. A call of the program's kindsFit. Parts of a slice of nodes, and the program's armsFit. What the program's listFits answers. What the program's listFits answers of cases and arms. -/
import Derived.Test.YtlcpmbdckmdabaaGreatDoorNEX
namespace Go.Proofs.YtlcpmbdckmdabaaGreatDoor
open Go.RowKit Nt
set_option linter.unusedVariables false
set_option maxRecDepth 100000
theorem bit_of (s m : Nat) (hs : s < 2 ^ 48) : (bits .and .u64 ((s : Int) / 2 ^ m) 1 == 1) = s.testBit m := by
  have hd := Nat.div_le_self s (2 ^ m)
  have h1 : ((s : Int) / 2 ^ m) = U (BitVec.ofNat 64 (s / 2 ^ m)) := by
    rw [U_ofNat, Nat.mod_eq_of_lt (by omega)]
    simp
  have h2 : (1 : Int) = U 1#64 := rfl
  rw [h1, U_and1, h2, U_beq, Nat.testBit_eq_decide_div_mod_eq, Bool.eq_iff_iff, beq_iff_eq, ← BitVec.toNat_inj, decide_eq_true_eq]
  have h3 : (BitVec.ofNat 64 (s / 2 ^ m) &&& 1#64).toNat = s / 2 ^ m % 2 := by
    rw [BitVec.toNat_and, BitVec.toNat_ofNat, Nat.mod_eq_of_lt (by omega)]
    exact Nat.and_one_is_mod _
  rw [h3]
  rfl
theorem iKHas (s : Nat) (k : Int) (w : World) (hs : s < 2 ^ 48) : Calls Tryz.prog 45 #[.int .u64 s, .int .i64 k] w fun e w' => e = .returned (.bool (hasB s k)) ∧ w' = w := by
  by_cases h1 : 1 ≤ k
  · by_cases h2 : k ≤ 47
    · obtain ⟨m, rfl⟩ : ∃ m : Nat, k = m := ⟨k.toNat, by omega⟩
      go_enter Tryz.func45, Tryz.ntmps45
      go_wp2
      go_ret
      refine ⟨ret_bool ?_, rfl⟩
      unfold hasB
      rw [decide_eq_true h1, decide_eq_true h2, Bool.true_and, Bool.true_and, Int.toNat_natCast]
      exact bit_of s m hs
    · have e : hasB s k = false := by unfold hasB; rw [decide_eq_false h2, Bool.and_false, Bool.false_and]
      rw [e]
      go_enter Tryz.func45, Tryz.ntmps45
      go_wp2
      go_ret
      exact ⟨rfl, rfl⟩
  · have e : hasB s k = false := by unfold hasB; rw [decide_eq_false h1, Bool.false_and, Bool.false_and]
    rw [e]
    go_enter Tryz.func45, Tryz.ntmps45
    go_wp2
    go_ret
    exact ⟨rfl, rfl⟩
theorem allK_drop {ks : List Nd} {j : Nat} {x : Nd} (s : Nat) (hdr : ks.drop j = x :: ks.drop (j + 1)) : allK s (ks.drop j) = (hasB s x.kind && allK s (ks.drop (j + 1))) := by rw [hdr]; rfl
set_option maxHeartbeats 400000 in
theorem iHasAll (s : Nat) (ks : List Nd) (v : Value) (w : World) (hs : s < 2 ^ 48) (hr : RdK w ks v) : Calls Tryz.prog 30 #[.int .u64 s, v] w fun e w' => e = .returned (.bool (allK s ks)) ∧ Below w.heap.size w w' := by
  have HH := hide (fun k w' => iKHas s k w' hs)
  have hl := len_ok hr
  have HR := hide hr
  obtain ⟨a0, c0, hv0⟩ := RdK_slice hr
  subst hv0
  clear hr hs
  go_enter Tryz.func30, Tryz.ntmps30
  go_wp2
  go_loopw [9] (fun i wr => ∃ j : Nat, i = .int .i64 j ∧ j ≤ ks.length ∧ Below w.heap.size w wr ∧ allK s (ks.drop j) = allK s ks) (fun i wr => ks.length - (intOf i).toNat)
  case atStart => exact ⟨0, rfl, Nat.zero_le _, brf _, rfl⟩
  case round =>
    obtain ⟨j, rfl, hj, hb, hall⟩ := hrel
    have HB := hide hb
    have HA := hide hall
    by_cases hjn : j < ks.length
    · have hx : ks[j]? = some ks[j] := List.getElem?_eq_getElem hjn
      have hdr := List.drop_eq_getElem_cons hjn
      generalize ks[j] = x at hx hdr
      rcases RdK_cases (unhide HR) with ⟨h0, _⟩ | ⟨b, o, c', vs, hvv, hn, hcs⟩
      · rw [h0] at hjn; simp at hjn
      obtain ⟨k1, k2, k3, hts, hk⟩ := hcs j x hx
      have k1' := cell_later hb k1
      have k2' := cell_later hb k2
      have k3' := cell_later hb k3
      obtain ⟨ha0, hc0⟩ : a0 = some ⟨b, o, none⟩ ∧ c0 = c' := by injection hvv with h1 h2 h3; exact ⟨h1, h3⟩
      subst ha0 hc0
      obtain ⟨a', c'', hv'⟩ := RdK_slice hk
      rw [hv'] at k3'
      rw [allK_drop s hdr] at HA
      have HX := hide (fun w' => unhide HH x.kind w')
      clear hb k1 k2 k3 hk hcs hvv hall
      cases hok : hasB s x.kind with
      | true =>
        rw [hok] at HX HA
        rw [Bool.true_and] at HA
        clear hok
        generalize x.kind = yk at *
        generalize x.text = yt at *
        go_wp2_with (go_at_call 45; refine (unhide HX _).mono ?_; rintro e w' ⟨rfl, rfl⟩)
        exact ⟨⟨j + 1, by go_num, by omega, bal (unhide HB) _, unhide HA⟩, by simp [intOf]; omega⟩
      | false =>
        rw [hok] at HX HA
        rw [Bool.false_and] at HA
        clear hok
        generalize x.kind = yk at *
        generalize x.text = yt at *
        go_wp2_with (go_at_call 45; refine (unhide HX _).mono ?_; rintro e w' ⟨rfl, rfl⟩)
        exact bodyPost_ret (v := .bool false) (by simp [results, Tryz.results30, go_sem]) rfl ⟨by rw [← unhide HA], bal (unhide HB) _⟩
    · rw [List.drop_of_length_le (by omega)] at HA
      clear hb hall
      go_wp2
      exact bodyPost_ret (v := .bool true) (by simp [results, Tryz.results30, go_sem]) rfl ⟨by rw [← unhide HA]; rfl, unhide HB⟩
theorem fitK_len : ∀ (ks : List Nd) (ss : List Nat), ks.length ≠ ss.length → fitK ks ss = false := by
  intro ks
  induction ks with
  | nil => intro ss h; cases ss with
    | nil => exact absurd rfl h
    | cons c cs => rfl
  | cons x xs ih => intro ss h; cases ss with
    | nil => rfl
    | cons c cs =>
      show (hasB c x.kind && fitK xs cs) = false
      rw [ih cs (by simpa using h), Bool.and_false]
set_option maxHeartbeats 400000 in
theorem iFit (ks : List Nd) (ss : List Nat) (v : Value) (bs os cs : Nat) (w : World) (hs : ∀ s ∈ ss, s < 2 ^ 48) (h3 : ss.length ≤ 3) (hr : RdK w ks v) (hS : ∀ i s : Nat, ss[i]? = some s → w.cell? ⟨bs, os + i, none⟩ = some (.int .u64 (s : Int))) :
    Calls Tryz.prog 29 #[v, .slice (some ⟨bs, os, none⟩) ss.length cs] w fun e w' => e = .returned (.bool (fitK ks ss)) ∧ Below w.heap.size w w' := by
  have hl := len_ok hr
  have HR := hide hr
  have HS := hide hS
  have HH := hide (fun s (h : s ∈ ss) k w' => iKHas s k w' (hs s h))
  obtain ⟨a0, c0, hv0⟩ := RdK_slice hr
  subst hv0
  clear hr hs hS
  by_cases hne : ks.length = ss.length
  · have q1 : ((ks.length : Int) != (ss.length : Int)) = false := by rw [hne, bne]; simp
    have hle : ks.length ≤ 3 := by omega
    have HN := hide hne
    clear hne
    go_enter Tryz.func29, Tryz.ntmps29
    go_wp2
    go_loopw [14] (fun i wr => ∃ j : Nat, i = .int .i64 j ∧ j ≤ ks.length ∧ Below w.heap.size w wr ∧ fitK (ks.drop j) (ss.drop j) = fitK ks ss) (fun i wr => ks.length - (intOf i).toNat)
    case atStart => exact ⟨0, rfl, Nat.zero_le _, brf _, rfl⟩
    case round =>
      obtain ⟨j, rfl, hj, hb, hall⟩ := hrel
      have HB := hide hb
      have HA := hide hall
      by_cases hjn : j < ks.length
      · have hjs : j < ss.length := by have := unhide HN; omega
        have hx : ks[j]? = some ks[j] := List.getElem?_eq_getElem hjn
        have hdr := List.drop_eq_getElem_cons hjn
        have hy : ss[j]? = some ss[j] := List.getElem?_eq_getElem hjs
        have hds := List.drop_eq_getElem_cons hjs
        have hmem := List.getElem_mem hjs
        generalize ks[j] = x at hx hdr
        generalize ss[j] = s at hy hds hmem
        rcases RdK_cases (unhide HR) with ⟨h0, _⟩ | ⟨b, o, c', vs, hvv, hn, hcs⟩
        · rw [h0] at hjn; simp at hjn
        obtain ⟨k1, k2, k3, hts, hk⟩ := hcs j x hx
        have k1' := cell_later hb k1
        have k2' := cell_later hb k2
        have k3' := cell_later hb k3
        have s1' := cell_later hb (unhide HS j s hy)
        obtain ⟨ha0, hc0⟩ : a0 = some ⟨b, o, none⟩ ∧ c0 = c' := by injection hvv with h1 h2 h3; exact ⟨h1, h3⟩
        subst ha0 hc0
        obtain ⟨a', c'', hv'⟩ := RdK_slice hk
        rw [hv'] at k3'
        have HA2 : Hid ((hasB s x.kind && fitK (ks.drop (j + 1)) (ss.drop (j + 1))) = fitK ks ss) := hide (by rw [← unhide HA, hdr, hds]; rfl)
        have HX := hide (fun w' => unhide HH s hmem x.kind w')
        have s2' := cell_later (bal (brf wr) (Obj.cells #[Value.int IntKind.i64 x.kind, Value.string x.text, Value.slice a' x.kids.length c''] 29)) s1'
        have y1' : (wr.alloc (Obj.cells #[Value.int IntKind.i64 x.kind, Value.string x.text, Value.slice a' x.kids.length c''] 29)).cell? ⟨wr.heap.size, 0, none⟩ = some (.int .i64 x.kind) := by rw [World.cell?_alloc_new]; rfl
        clear hb k1 k2 k3 hk hcs hvv hall HA hds hdr
        cases hok : hasB s x.kind with
        | true =>
          rw [hok] at HX HA2
          rw [Bool.true_and] at HA2
          clear hok
          generalize x.kind = yk at *
          generalize x.text = yt at *
          go_wp2
          go_region_held3 (fun w' => w'.cell? ⟨bs, os + j, none⟩ = some (.int .u64 (s : Int)) ∧ w'.cell? ⟨wr.heap.size, 0, none⟩ = some (.int .i64 yk) ∧ Below w.heap.size w w')
            (first | (exact ⟨s2', y1', bdr (bal (unhide HB) _)⟩) | assumption)
            (first | (go_at_call 45; refine (unhide HX _).mono ?_; rintro e v1 ⟨rfl, rfl⟩))
          all_goals
            go_wp2
            exact ⟨⟨j + 1, by go_num, by omega, bdr (bal (unhide HB) _), unhide HA2⟩, by simp [intOf]; omega⟩
        | false =>
          rw [hok] at HX HA2
          rw [Bool.false_and] at HA2
          clear hok
          generalize x.kind = yk at *
          generalize x.text = yt at *
          go_wp2
          go_region_held3 (fun w' => w'.cell? ⟨bs, os + j, none⟩ = some (.int .u64 (s : Int)) ∧ w'.cell? ⟨wr.heap.size, 0, none⟩ = some (.int .i64 yk) ∧ Below w.heap.size w w')
            (first | (exact ⟨s2', y1', bdr (bal (unhide HB) _)⟩) | assumption)
            (first | (go_at_call 45; refine (unhide HX _).mono ?_; rintro e v1 ⟨rfl, rfl⟩))
          all_goals
            go_wp2
            exact bodyPost_ret (v := .bool false) (by simp [results, Tryz.results29, go_sem]) rfl ⟨by rw [← unhide HA2], bdr (bal (unhide HB) _)⟩
      · rw [List.drop_of_length_le (l := ks) (by omega), List.drop_of_length_le (l := ss) (by have := unhide HN; omega)] at HA
        clear hb hall
        go_wp2
        exact bodyPost_ret (v := .bool true) (by simp [results, Tryz.results29, go_sem]) rfl ⟨by rw [← unhide HA]; rfl, unhide HB⟩
  · rw [fitK_len _ _ hne]
    have q1 : ((ks.length : Int) != (ss.length : Int)) = true := by rw [bne, beq_eq_false_iff_ne.2 (by omega)]; rfl
    go_enter Tryz.func29, Tryz.ntmps29
    go_wp2
    go_ret
    exact ⟨rfl, brf _⟩
end Go.Proofs.YtlcpmbdckmdabaaGreatDoor
namespace Go.Proofs.YtlcpmbdckmdabaaGreatDoor
open Go.RowKit Nt
set_option linter.unusedVariables false
set_option maxRecDepth 100000
theorem setsNew (W : World) (l : List Nat) : ∀ i s : Nat, l[i]? = some s → (W.alloc (Obj.cells (l.map fun s : Nat => Value.int .u64 (s : Int)).toArray 49)).cell? ⟨W.heap.size, 0 + i, none⟩ = some (.int .u64 (s : Int)) := by
  intro i s h
  rw [Nat.zero_add, World.cell?_alloc_new]
  simp [h]
theorem fitCall (ks : List Nd) (ss : List Nat) (v : Value) (W : World) (b : Nat) (hs : ∀ s ∈ ss, s < 2 ^ 48) (h3 : ss.length ≤ 3) (hb : b = W.heap.size) (hr : RdK W ks v) :
    Calls Tryz.prog 29 #[v, .slice (some ⟨b, 0, none⟩) ss.length ss.length] (W.alloc (Obj.cells (ss.map fun s : Nat => Value.int .u64 (s : Int)).toArray 49)) fun e w' => e = .returned (.bool (fitK ks ss)) ∧ Below W.heap.size W w' := by
  subst hb
  refine (iFit ks ss v W.heap.size 0 ss.length _ hs h3 (RdK_later (bal (brf W) _) hr) (setsNew W ss)).mono ?_
  rintro e w' ⟨rfl, h⟩
  exact ⟨rfl, btr (bal (brf W) _) h⟩
end Go.Proofs.YtlcpmbdckmdabaaGreatDoor
namespace Go.Proofs.YtlcpmbdckmdabaaGreatDoor
open Go.RowKit Nt
set_option linter.unusedVariables false
set_option maxRecDepth 100000
theorem RdK_take {W : World} {ks : List Nd} {b o c : Nat} (hr : RdK W ks (.slice (some ⟨b, o, none⟩) ks.length c)) (m : Nat) (hm : m ≤ ks.length) (c' : Nat) (hc' : m ≤ c') : RdK W (ks.take m) (.slice (some ⟨b, o, none⟩) m c') := by
  rcases RdK_cases hr with ⟨h0, a, c2, hv⟩ | ⟨b2, o2, c2, vs, hv, hn, hcs⟩
  · rw [h0] at hm ⊢
    have : m = 0 := by simpa using hm
    subst this
    exact .nil _ _
  · injection hv with h1 h2 h3
    injection h1 with h1
    injection h1 with h4 h5
    subst h4 h5
    have hl : (ks.take m).length = m := by rw [List.length_take]; omega
    have hr2 : RdB W 0 (ks.take m) (.slice (some ⟨b, o, none⟩) (ks.take m).length c') := .row b o c' (ks.take m) vs (Nat.zero_le _) (by rw [hl]; omega) (by rw [hl]; exact hc')
      (fun i x hx => by
        have hi : i < m := by have := (List.getElem?_eq_some_iff.1 hx).1; omega
        rw [List.getElem?_take_of_lt hi] at hx
        obtain ⟨p1, p2, p3, p4, _⟩ := hcs i x hx
        exact ⟨p1, p2, p3, p4⟩)
      (fun i x hx => by
        have hi : i < m := by have := (List.getElem?_eq_some_iff.1 hx).1; omega
        rw [List.getElem?_take_of_lt hi] at hx
        exact (hcs i x hx).2.2.2.2)
    rw [hl] at hr2
    exact hr2
theorem RdK_drop {W : World} {ks : List Nd} {b o c : Nat} (hr : RdK W ks (.slice (some ⟨b, o, none⟩) ks.length c)) (m : Nat) (hm : m ≤ ks.length) (c' : Nat) (hc' : ks.length - m ≤ c') : RdK W (ks.drop m) (.slice (some ⟨b, o + m * 3, none⟩) (ks.length - m) c') := by
  rcases RdK_cases hr with ⟨h0, a, c2, hv⟩ | ⟨b2, o2, c2, vs, hv, hn, hcs⟩
  · rw [h0]
    simp only [List.drop_nil, List.length_nil, Nat.zero_sub]
    exact .nil _ _
  · injection hv with h1 h2 h3
    injection h1 with h1
    injection h1 with h4 h5
    subst h4 h5
    have hl : (ks.drop m).length = ks.length - m := by rw [List.length_drop]
    have hr2 : RdB W 0 (ks.drop m) (.slice (some ⟨b, o + m * 3, none⟩) (ks.drop m).length c') := .row b (o + m * 3) c' (ks.drop m) (fun i => vs (m + i)) (Nat.zero_le _) (by rw [hl]; omega) (by rw [hl]; exact hc')
      (fun i x hx => by
        rw [List.getElem?_drop] at hx
        obtain ⟨p1, p2, p3, p4, _⟩ := hcs (m + i) x hx
        have e : o + m * 3 + i * 3 = o + (m + i) * 3 := by rw [Nat.add_mul]; omega
        rw [e]
        exact ⟨p1, p2, p3, p4⟩)
      (fun i x hx => by
        rw [List.getElem?_drop] at hx
        exact (hcs (m + i) x hx).2.2.2.2)
    rw [hl] at hr2
    exact hr2
theorem RdK_some {W : World} {ks : List Nd} {v : Value} (hr : RdK W ks v) (hne : ks ≠ []) : ∃ b o c, v = .slice (some ⟨b, o, none⟩) ks.length c ∧ ks.length ≤ maxLen := by
  rcases RdK_cases hr with ⟨h0, _⟩ | ⟨b, o, c, vs, hv, hn, hcs⟩
  · exact absurd h0 hne
  · exact ⟨b, o, c, hv, hn⟩
theorem armsFit0 (v : Value) (w : World) (hr : RdK w [] v) : Calls Tryz.prog 46 #[v] w fun e w' => e = .returned (.bool true) ∧ Below w.heap.size w w' := by
  have HH := hide (fun v' w' hr' => iHasAll (2 ^ 31) [] v' w' (by decide) hr')
  have HR := hide hr
  obtain ⟨a0, c0, hv0⟩ := RdK_slice hr
  subst hv0
  clear hr
  have e0 : allK (2 ^ 31) [] = true := rfl
  rw [e0] at HH
  go_enter Tryz.func46, Tryz.ntmps46
  go_wp2_with (go_at_call 30; refine (unhide HH _ _ (unhide HR)).mono ?_; rintro e v1 ⟨rfl, hb1⟩)
  go_ret
  exact ⟨rfl, hb1⟩
set_option maxHeartbeats 400000 in
theorem armsFit1 (ks : List Nd) (v : Value) (w : World) (hr : RdK w ks v) (m : Nat) (hm : ks.length = m + 1) (y : Nd) (hy : ks[m]? = some y) (h32 : y.kind = 32) :
    Calls Tryz.prog 46 #[v] w fun e w' => e = .returned (.bool (allK (2 ^ 31) (ks.take m))) ∧ Below w.heap.size w w' := by
  have HH := hide (fun v' w' hr' => iHasAll (2 ^ 31) (ks.take m) v' w' (by decide) hr')
  rcases RdK_cases hr with ⟨h0, _⟩ | ⟨b, o, c, vs, hv, hn, hcs⟩
  · rw [h0] at hm; simp at hm
  subst hv
  obtain ⟨k1, k2, k3, hts, hk⟩ := hcs m y hy
  have hcap := RdK_cap hr
  have HT := hide (RdK_take hr m (by omega) c (by omega))
  have hmc : m ≤ c := by omega
  obtain ⟨a', c'', hv'⟩ := RdK_slice hk
  rw [hv'] at k3
  rw [h32] at k1
  rw [hm] at hn hcap ⊢
  unfold maxLen at hn
  clear hr hk hcs
  generalize y.text = yt at *
  generalize allK (2 ^ 31) (ks.take m) = r at *
  go_enter Tryz.func46, Tryz.ntmps46
  go_wp2_with (go_at_call 30; refine (unhide HH _ _ (unhide HT)).mono ?_; rintro e v1 ⟨rfl, hb1⟩)
  go_ret
  exact ⟨rfl, hb1⟩
set_option maxHeartbeats 400000 in
theorem armsFit2 (ks : List Nd) (v : Value) (w : World) (hr : RdK w ks v) (m : Nat) (hm : ks.length = m + 1) (y : Nd) (hy : ks[m]? = some y) (h32 : y.kind ≠ 32) :
    Calls Tryz.prog 46 #[v] w fun e w' => e = .returned (.bool (allK (2 ^ 31) ks)) ∧ Below w.heap.size w w' := by
  have HH := hide (fun v' w' hr' => iHasAll (2 ^ 31) ks v' w' (by decide) hr')
  have HR := hide hr
  have a32 : (y.kind == 32) = false := beq_eq_false_iff_ne.2 h32
  rcases RdK_cases hr with ⟨h0, _⟩ | ⟨b, o, c, vs, hv, hn, hcs⟩
  · rw [h0] at hm; simp at hm
  subst hv
  obtain ⟨k1, k2, k3, hts, hk⟩ := hcs m y hy
  obtain ⟨a', c'', hv'⟩ := RdK_slice hk
  rw [hv'] at k3
  rw [hm] at hn HR ⊢
  unfold maxLen at hn
  clear hr hk hcs h32
  generalize y.text = yt at *
  generalize y.kind = yk at *
  generalize allK (2 ^ 31) ks = r at *
  go_enter Tryz.func46, Tryz.ntmps46
  go_wp2_with (go_at_call 30; refine (unhide HH _ _ (unhide HR)).mono ?_; rintro e v1 ⟨rfl, hb1⟩)
  go_ret
  exact ⟨rfl, hb1⟩
theorem iArms (ks : List Nd) (v : Value) (w : World) (hr : RdK w ks v) : Calls Tryz.prog 46 #[v] w fun e w' => e = .returned (.bool (armsB ks)) ∧ Below w.heap.size w w' := by
  cases hks : ks with
  | nil => subst hks; exact armsFit0 v w hr
  | cons x xs =>
    rw [← hks]
    have hm : ks.length = xs.length + 1 := by rw [hks]; rfl
    obtain ⟨y, hy⟩ : ∃ y, ks[xs.length]? = some y := ⟨_, List.getElem?_eq_getElem (by omega)⟩
    have hla : ks.getLast? = some y := by rw [List.getLast?_eq_getElem?, hm]; exact hy
    have e : armsB ks = if y.kind = 32 then allK (2 ^ 31) (ks.take xs.length) else allK (2 ^ 31) ks := by
      unfold armsB
      rw [hla, List.dropLast_eq_take, hm]
      rfl
    rw [e]
    by_cases h32 : y.kind = 32
    · rw [if_pos h32]; exact armsFit1 ks v w hr xs.length hm y hy h32
    · rw [if_neg h32]; exact armsFit2 ks v w hr xs.length hm y hy h32
end Go.Proofs.YtlcpmbdckmdabaaGreatDoor
namespace Go.Proofs.YtlcpmbdckmdabaaGreatDoor
open Go.RowKit Nt
set_option linter.unusedVariables false
set_option maxRecDepth 100000
theorem len_two {ks : List Nd} (h : ks.length = 2) : ∃ x y, ks = [x, y] := by
  match ks, h with
  | [x, y], _ => exact ⟨x, y, rfl⟩
theorem lf1 (ks : List Nd) (v : Value) (w : World) (hr : RdK w ks v) :
    Calls Tryz.prog 31 #[.int .i64 1, v] w fun e w' => e = .returned (.bool (allK (2 ^ 2) ks)) ∧ Below w.heap.size w w' := by
  have K1 : Hid (∀ w' v', RdK w' (ks) v' → Calls Tryz.prog 30 #[.int .u64 4, v'] w' fun e w'' => e = .returned (.bool (allK (2 ^ 2) (ks))) ∧ Below w'.heap.size w' w'') := hide (fun w' v' hr' => iHasAll (2 ^ 2) (ks) v' w' (by decide) hr')
  have HR := hide hr
  obtain ⟨a0, c0, hv0⟩ := RdK_slice hr
  subst hv0
  clear hr
  generalize allK (2 ^ 2) ks = r at *
  go_enter Tryz.func31, Tryz.ntmps31
  go_wp2_with (go_at_call 30; refine (unhide K1 _ _ (unhide HR)).mono ?_; rintro e v1 ⟨rfl, hb1⟩)
  go_ret
  exact ⟨rfl, hb1⟩
theorem lf3 (ks : List Nd) (v : Value) (w : World) (hr : RdK w ks v) :
    Calls Tryz.prog 31 #[.int .i64 3, v] w fun e w' => e = .returned (.bool (allK (2 ^ 4) ks)) ∧ Below w.heap.size w w' := by
  have K1 : Hid (∀ w' v', RdK w' (ks) v' → Calls Tryz.prog 30 #[.int .u64 16, v'] w' fun e w'' => e = .returned (.bool (allK (2 ^ 4) (ks))) ∧ Below w'.heap.size w' w'') := hide (fun w' v' hr' => iHasAll (2 ^ 4) (ks) v' w' (by decide) hr')
  have HR := hide hr
  obtain ⟨a0, c0, hv0⟩ := RdK_slice hr
  subst hv0
  clear hr
  generalize allK (2 ^ 4) ks = r at *
  go_enter Tryz.func31, Tryz.ntmps31
  go_wp2_with (go_at_call 30; refine (unhide K1 _ _ (unhide HR)).mono ?_; rintro e v1 ⟨rfl, hb1⟩)
  go_ret
  exact ⟨rfl, hb1⟩
theorem lf5 (ks : List Nd) (v : Value) (w : World) (hr : RdK w ks v) :
    Calls Tryz.prog 31 #[.int .i64 5, v] w fun e w' => e = .returned (.bool (allK (2 ^ 6 + 2 ^ 7) ks)) ∧ Below w.heap.size w w' := by
  have K1 : Hid (∀ w' v', RdK w' (ks) v' → Calls Tryz.prog 30 #[.int .u64 192, v'] w' fun e w'' => e = .returned (.bool (allK (2 ^ 6 + 2 ^ 7) (ks))) ∧ Below w'.heap.size w' w'') := hide (fun w' v' hr' => iHasAll (2 ^ 6 + 2 ^ 7) (ks) v' w' (by decide) hr')
  have HR := hide hr
  obtain ⟨a0, c0, hv0⟩ := RdK_slice hr
  subst hv0
  clear hr
  generalize allK (2 ^ 6 + 2 ^ 7) ks = r at *
  go_enter Tryz.func31, Tryz.ntmps31
  go_wp2_with (go_at_call 30; refine (unhide K1 _ _ (unhide HR)).mono ?_; rintro e v1 ⟨rfl, hb1⟩)
  go_ret
  exact ⟨rfl, hb1⟩
theorem lf23 (ks : List Nd) (v : Value) (w : World) (hr : RdK w ks v) :
    Calls Tryz.prog 31 #[.int .i64 23, v] w fun e w' => e = .returned (.bool (allK (itmK) ks)) ∧ Below w.heap.size w w' := by
  have K1 : Hid (∀ w' v', RdK w' (ks) v' → Calls Tryz.prog 30 #[.int .u64 8388096, v'] w' fun e w'' => e = .returned (.bool (allK (itmK) (ks))) ∧ Below w'.heap.size w' w'') := hide (fun w' v' hr' => iHasAll (itmK) (ks) v' w' (by decide) hr')
  have HR := hide hr
  obtain ⟨a0, c0, hv0⟩ := RdK_slice hr
  subst hv0
  clear hr
  generalize allK (itmK) ks = r at *
  go_enter Tryz.func31, Tryz.ntmps31
  go_wp2_with (go_at_call 30; refine (unhide K1 _ _ (unhide HR)).mono ?_; rintro e v1 ⟨rfl, hb1⟩)
  go_ret
  exact ⟨rfl, hb1⟩
theorem lf24 (ks : List Nd) (v : Value) (w : World) (hr : RdK w ks v) :
    Calls Tryz.prog 31 #[.int .i64 24, v] w fun e w' => e = .returned (.bool (allK (2 ^ 25) ks)) ∧ Below w.heap.size w w' := by
  have K1 : Hid (∀ w' v', RdK w' (ks) v' → Calls Tryz.prog 30 #[.int .u64 33554432, v'] w' fun e w'' => e = .returned (.bool (allK (2 ^ 25) (ks))) ∧ Below w'.heap.size w' w'') := hide (fun w' v' hr' => iHasAll (2 ^ 25) (ks) v' w' (by decide) hr')
  have HR := hide hr
  obtain ⟨a0, c0, hv0⟩ := RdK_slice hr
  subst hv0
  clear hr
  generalize allK (2 ^ 25) ks = r at *
  go_enter Tryz.func31, Tryz.ntmps31
  go_wp2_with (go_at_call 30; refine (unhide K1 _ _ (unhide HR)).mono ?_; rintro e v1 ⟨rfl, hb1⟩)
  go_ret
  exact ⟨rfl, hb1⟩
theorem lf26 (ks : List Nd) (v : Value) (w : World) (hr : RdK w ks v) :
    Calls Tryz.prog 31 #[.int .i64 26, v] w fun e w' => e = .returned (.bool (allK (stmK) ks)) ∧ Below w.heap.size w w' := by
  have K1 : Hid (∀ w' v', RdK w' (ks) v' → Calls Tryz.prog 30 #[.int .u64 62142808064, v'] w' fun e w'' => e = .returned (.bool (allK (stmK) (ks))) ∧ Below w'.heap.size w' w'') := hide (fun w' v' hr' => iHasAll (stmK) (ks) v' w' (by decide) hr')
  have HR := hide hr
  obtain ⟨a0, c0, hv0⟩ := RdK_slice hr
  subst hv0
  clear hr
  generalize allK (stmK) ks = r at *
  go_enter Tryz.func31, Tryz.ntmps31
  go_wp2_with (go_at_call 30; refine (unhide K1 _ _ (unhide HR)).mono ?_; rintro e v1 ⟨rfl, hb1⟩)
  go_ret
  exact ⟨rfl, hb1⟩
theorem lf40 (ks : List Nd) (v : Value) (w : World) (hr : RdK w ks v) :
    Calls Tryz.prog 31 #[.int .i64 40, v] w fun e w' => e = .returned (.bool (allK (expK) ks)) ∧ Below w.heap.size w w' := by
  have K1 : Hid (∀ w' v', RdK w' (ks) v' → Calls Tryz.prog 30 #[.int .u64 281406257233920, v'] w' fun e w'' => e = .returned (.bool (allK (expK) (ks))) ∧ Below w'.heap.size w' w'') := hide (fun w' v' hr' => iHasAll (expK) (ks) v' w' (by decide) hr')
  have HR := hide hr
  obtain ⟨a0, c0, hv0⟩ := RdK_slice hr
  subst hv0
  clear hr
  generalize allK (expK) ks = r at *
  go_enter Tryz.func31, Tryz.ntmps31
  go_wp2_with (go_at_call 30; refine (unhide K1 _ _ (unhide HR)).mono ?_; rintro e v1 ⟨rfl, hb1⟩)
  go_ret
  exact ⟨rfl, hb1⟩
theorem lf13 (ks : List Nd) (v : Value) (w : World) (hr : RdK w ks v) :
    Calls Tryz.prog 31 #[.int .i64 13, v] w fun e w' => e = .returned (.bool (decide (1 ≤ ks.length) && allK (2 ^ 37) ks)) ∧ Below w.heap.size w w' := by
  have K1 : Hid (∀ w' v', RdK w' (ks) v' → Calls Tryz.prog 30 #[.int .u64 137438953472, v'] w' fun e w'' => e = .returned (.bool (allK (2 ^ 37) (ks))) ∧ Below w'.heap.size w' w'') := hide (fun w' v' hr' => iHasAll (2 ^ 37) (ks) v' w' (by decide) hr')
  have HR := hide hr
  have hl := len_ok hr
  obtain ⟨a0, c0, hv0⟩ := RdK_slice hr
  subst hv0
  clear hr
  generalize allK (2 ^ 37) ks = r at *
  by_cases h1 : 1 ≤ ks.length
  · have q : (1 : Int) ≤ ks.length := by omega
    rw [decide_eq_true h1, Bool.true_and]
    go_enter Tryz.func31, Tryz.ntmps31
    go_wp2_with (go_at_call 30; refine (unhide K1 _ _ (unhide HR)).mono ?_; rintro e v1 ⟨rfl, hb1⟩)
    go_ret
    exact ⟨rfl, hb1⟩
  · have q : ¬ ((1 : Int) ≤ ks.length) := by omega
    rw [decide_eq_false h1, Bool.false_and]
    go_enter Tryz.func31, Tryz.ntmps31
    go_wp2
    go_ret
    exact ⟨rfl, brf _⟩
theorem lf41 (ks : List Nd) (v : Value) (w : World) (hr : RdK w ks v) :
    Calls Tryz.prog 31 #[.int .i64 41, v] w fun e w' => e = .returned (.bool (decide (1 ≤ ks.length) && allK (expK) ks)) ∧ Below w.heap.size w w' := by
  have K1 : Hid (∀ w' v', RdK w' (ks) v' → Calls Tryz.prog 30 #[.int .u64 281406257233920, v'] w' fun e w'' => e = .returned (.bool (allK (expK) (ks))) ∧ Below w'.heap.size w' w'') := hide (fun w' v' hr' => iHasAll (expK) (ks) v' w' (by decide) hr')
  have HR := hide hr
  have hl := len_ok hr
  obtain ⟨a0, c0, hv0⟩ := RdK_slice hr
  subst hv0
  clear hr
  generalize allK (expK) ks = r at *
  by_cases h1 : 1 ≤ ks.length
  · have q : (1 : Int) ≤ ks.length := by omega
    rw [decide_eq_true h1, Bool.true_and]
    go_enter Tryz.func31, Tryz.ntmps31
    go_wp2_with (go_at_call 30; refine (unhide K1 _ _ (unhide HR)).mono ?_; rintro e v1 ⟨rfl, hb1⟩)
    go_ret
    exact ⟨rfl, hb1⟩
  · have q : ¬ ((1 : Int) ≤ ks.length) := by omega
    rw [decide_eq_false h1, Bool.false_and]
    go_enter Tryz.func31, Tryz.ntmps31
    go_wp2
    go_ret
    exact ⟨rfl, brf _⟩
theorem lfno (k : Int) (v : Value) (w : World) (h1 : k ≠ 1) (h2 : k ≠ 2) (h3 : k ≠ 3) (h5 : k ≠ 5) (h13 : k ≠ 13) (h23 : k ≠ 23) (h24 : k ≠ 24) (h26 : k ≠ 26) (h30 : k ≠ 30) (h31 : k ≠ 31) (h40 : k ≠ 40) (h41 : k ≠ 41) :
    Calls Tryz.prog 31 #[.int .i64 k, v] w fun e w' => e = .returned (.bool false) ∧ Below w.heap.size w w' := by
  have a1 : (k == 1) = false := beq_eq_false_iff_ne.2 h1
  have a2 : (k == 2) = false := beq_eq_false_iff_ne.2 h2
  have a3 : (k == 3) = false := beq_eq_false_iff_ne.2 h3
  have a5 : (k == 5) = false := beq_eq_false_iff_ne.2 h5
  have a13 : (k == 13) = false := beq_eq_false_iff_ne.2 h13
  have a23 : (k == 23) = false := beq_eq_false_iff_ne.2 h23
  have a24 : (k == 24) = false := beq_eq_false_iff_ne.2 h24
  have a26 : (k == 26) = false := beq_eq_false_iff_ne.2 h26
  have a30 : (k == 30) = false := beq_eq_false_iff_ne.2 h30
  have a31 : (k == 31) = false := beq_eq_false_iff_ne.2 h31
  have a40 : (k == 40) = false := beq_eq_false_iff_ne.2 h40
  have a41 : (k == 41) = false := beq_eq_false_iff_ne.2 h41
  clear h1 h2 h3 h5 h13 h23 h24 h26 h30 h31 h40 h41
  go_enter Tryz.func31, Tryz.ntmps31
  go_wp2
  go_ret
  exact ⟨rfl, brf _⟩
theorem lf2z (ks : List Nd) (v : Value) (w : World) (hr : RdK w ks v) (h2 : ¬ 2 ≤ ks.length) :
    Calls Tryz.prog 31 #[.int .i64 2, v] w fun e w' => e = .returned (.bool false) ∧ Below w.heap.size w w' := by
  have hl := len_ok hr
  have q : ¬ ((2 : Int) ≤ ks.length) := by omega
  obtain ⟨a0, c0, hv0⟩ := RdK_slice hr
  subst hv0
  clear hr
  go_enter Tryz.func31, Tryz.ntmps31
  go_wp2
  go_ret
  exact ⟨rfl, brf _⟩
set_option maxHeartbeats 800000 in
theorem lf2 (ks : List Nd) (v : Value) (w : World) (hr : RdK w ks v) (h2 : 2 ≤ ks.length) :
    Calls Tryz.prog 31 #[.int .i64 2, v] w fun e w' => e = .returned (.bool (fitK (ks.take 2) [2 ^ 3, 2 ^ 5] && allK itmK (ks.drop 2))) ∧ Below w.heap.size w w' := by
  have K2 : Hid (∀ w' v', RdK w' (ks.drop 2) v' → Calls Tryz.prog 30 #[.int .u64 8388096, v'] w' fun e w'' => e = .returned (.bool (allK (itmK) (ks.drop 2))) ∧ Below w'.heap.size w' w'') := hide (fun w' v' hr' => iHasAll (itmK) (ks.drop 2) v' w' (by decide) hr')
  obtain ⟨b, o, c, hv, hn⟩ := RdK_some hr (by intro h; rw [h] at h2; simp at h2)
  subst hv
  have hcap := RdK_cap hr
  have K1 : Hid (∀ (W : World) (b' : Nat), b' = W.heap.size → Below w.heap.size w W → Calls Tryz.prog 29 #[.slice (some ⟨b, o, none⟩) 2 c, .slice (some ⟨b', 0, none⟩) 2 2] (W.alloc (Obj.cells #[.int .u64 8, .int .u64 32] 49)) fun e w' => e = .returned (.bool (fitK (ks.take 2) [2 ^ 3, 2 ^ 5])) ∧ Below W.heap.size W w') := hide (fun W b' hb hB => fitCall (ks.take 2) [2 ^ 3, 2 ^ 5] _ W b' (by decide) (by decide) hb (RdK_later hB (RdK_take hr 2 h2 c (by omega))))
  have q : (2 : Int) ≤ ks.length := by omega
  have q1 : 2 ≤ c := by omega
  unfold maxLen at hn
  have HD : Hid (∀ W, Below w.heap.size w W → RdK W (ks.drop 2) (.slice (if c = 2 then some ⟨b, o, none⟩ else some ⟨b, o + 6, none⟩) (ks.length - 2) (c - 2))) := hide (fun W hB => by
    by_cases hc : c = 2
    · rw [if_pos hc]
      have e1 : ks.length - 2 = 0 := by omega
      have e2 : ks.drop 2 = [] := List.drop_of_length_le (by omega)
      rw [e1, e2]; exact .nil _ _
    · rw [if_neg hc]; exact RdK_later hB (RdK_drop hr 2 h2 (c - 2) (by omega)))
  clear hr
  cases hf : fitK (ks.take 2) [2 ^ 3, 2 ^ 5] with
  | false =>
    rw [hf] at K1
    clear hf
    rw [Bool.false_and]
    go_enter Tryz.func31, Tryz.ntmps31
    go_wp2_with (go_at_call 29; refine (unhide K1 w _ rfl (brf w)).mono ?_; rintro e v1 ⟨rfl, hb1⟩)
    go_ret
    exact ⟨rfl, hb1⟩
  | true =>
    rw [hf] at K1
    clear hf
    rw [Bool.true_and]
    generalize allK itmK (ks.drop 2) = r at *
    by_cases hc : c = 2
    · subst hc
      obtain ⟨x, y, rfl⟩ := len_two (show ks.length = 2 by omega)
      clear HD hcap hn q q1 h2
      have K3 : Hid (∀ (w' : World) (a : Option Addr) (c' : Nat), Calls Tryz.prog 30 #[.int .u64 8388096, .slice a 0 c'] w' fun e w'' => e = .returned (.bool r) ∧ Below w'.heap.size w' w'') := hide (fun w' a c' => unhide K2 w' _ (.nil a c'))
      clear K2
      go_enter Tryz.func31, Tryz.ntmps31
      go_wp2_with (first | (go_at_call 30; refine (unhide K3 _ _ _).mono ?_; rintro e v2 ⟨rfl, hb2⟩) | (go_at_call 29; refine (unhide K1 w _ rfl (brf w)).mono ?_; rintro e v1 ⟨rfl, hb1⟩))
      go_ret
      exact ⟨rfl, btr hb1 hb2⟩
    · rw [if_neg hc] at HD
      go_enter Tryz.func31, Tryz.ntmps31
      go_wp2_with (first | (go_at_call 30; refine (unhide K2 _ _ (unhide HD _ hb1)).mono ?_; rintro e v2 ⟨rfl, hb2⟩) | (go_at_call 29; refine (unhide K1 w _ rfl (brf w)).mono ?_; rintro e v1 ⟨rfl, hb1⟩))
      go_ret
      exact ⟨rfl, btr hb1 hb2⟩
end Go.Proofs.YtlcpmbdckmdabaaGreatDoor
namespace Go.Proofs.YtlcpmbdckmdabaaGreatDoor
open Go.RowKit Nt
set_option linter.unusedVariables false
set_option maxRecDepth 100000
theorem lf30z (v : Value) (w : World) (hr : RdK w [] v) :
    Calls Tryz.prog 31 #[.int .i64 30, v] w fun e w' => e = .returned (.bool false) ∧ Below w.heap.size w w' := by
  obtain ⟨a0, c0, hv0⟩ := RdK_slice hr
  subst hv0
  clear hr
  go_enter Tryz.func31, Tryz.ntmps31
  go_wp2
  go_ret
  exact ⟨rfl, brf _⟩
set_option maxHeartbeats 800000 in
theorem lf30 (x : Nd) (xs : List Nd) (v : Value) (w : World) (hr : RdK w (x :: xs) v) :
    Calls Tryz.prog 31 #[.int .i64 30, v] w fun e w' => e = .returned (.bool (hasB expK x.kind && armsB xs)) ∧ Below w.heap.size w w' := by
  have hl := len_ok hr
  rcases RdK_cases hr with ⟨h0, _⟩ | ⟨b, o, c, vs, hv, hn, hcs⟩
  · cases h0
  subst hv
  have hcap := RdK_cap hr
  obtain ⟨k1, k2, k3, hts, hkr⟩ := hcs 0 x rfl
  rw [Nat.zero_mul, Nat.add_zero] at k1 k2 k3
  obtain ⟨a', c'', hv'⟩ := RdK_slice hkr
  rw [hv'] at k3
  have HX : Hid (∀ w', Calls Tryz.prog 45 #[.int .u64 281406257233920, .int .i64 x.kind] w' fun e w'' => e = .returned (.bool (hasB expK x.kind)) ∧ w'' = w') := hide (fun w' => iKHas expK x.kind w' (by decide))
  have KA := hide (fun v' w' hr' => iArms xs v' w' hr')
  have HD : Hid (c ≠ 1 → RdK w xs (.slice (some ⟨b, o + 3, none⟩) xs.length (c - 1))) := hide (fun hc => by
    have := RdK_drop hr 1 (by simp) (c - 1) (by simp at hcap; simp; omega)
    simpa using this)
  have hlen : (x :: xs).length = xs.length + 1 := rfl
  rw [hlen] at hl hcap hn ⊢
  unfold maxLen at hn
  generalize armsB xs = r at *
  have q : (1 : Int) ≤ ((xs.length + 1 : Nat) : Int) := by omega
  have q1 : 1 ≤ c := by omega
  clear hcs hkr hr hlen hl q
  have q : (1 : Int) ≤ (xs.length : Int) + 1 := by omega
  have HCAP := hide hcap
  clear hcap
  cases hf : hasB expK x.kind with
  | false =>
    rw [hf] at HX
    clear hf KA HD
    rw [Bool.false_and]
    generalize x.kind = yk at *
    generalize x.text = yt at *
    go_enter Tryz.func31, Tryz.ntmps31
    go_wp2_with (go_at_call 45; refine (unhide HX _).mono ?_; rintro e w' ⟨rfl, rfl⟩)
    go_ret
    exact ⟨rfl, brf _⟩
  | true =>
    rw [hf] at HX
    clear hf
    rw [Bool.true_and]
    generalize x.kind = yk at *
    generalize x.text = yt at *
    by_cases hc : c = 1
    · subst hc
      obtain rfl : xs = [] := List.eq_nil_of_length_eq_zero (by have := unhide HCAP; omega)
      have K3 : Hid (∀ (w' : World) (a : Option Addr) (c' : Nat), Calls Tryz.prog 46 #[.slice a 0 c'] w' fun e w'' => e = .returned (.bool r) ∧ Below w'.heap.size w' w'') := hide (fun w' a c' => unhide KA _ w' (.nil a c'))
      clear KA HD HCAP hn q q1
      go_enter Tryz.func31, Tryz.ntmps31
      go_wp2_with (first | (go_at_call 45; refine (unhide HX _).mono ?_; rintro e w' ⟨rfl, rfl⟩) | (go_at_call 46; refine (unhide K3 _ _ _).mono ?_; rintro e v2 ⟨rfl, hb2⟩))
      go_ret
      exact ⟨rfl, hb2⟩
    · have HD2 := hide (unhide HD hc)
      clear HD
      go_enter Tryz.func31, Tryz.ntmps31
      go_wp2_with (first | (go_at_call 45; refine (unhide HX _).mono ?_; rintro e w' ⟨rfl, rfl⟩) | (go_at_call 46; refine (unhide KA _ _ (unhide HD2)).mono ?_; rintro e v2 ⟨rfl, hb2⟩))
      go_ret
      exact ⟨rfl, hb2⟩
theorem lf31z (ks : List Nd) (v : Value) (w : World) (hr : RdK w ks v) (h2 : ks.length < 2) :
    Calls Tryz.prog 31 #[.int .i64 31, v] w fun e w' => e = .returned (.bool false) ∧ Below w.heap.size w w' := by
  have q : ¬ ((1 : Int) ≤ (ks.length : Int) - 1) := by omega
  obtain ⟨a0, c0, hv0⟩ := RdK_slice hr
  subst hv0
  clear hr
  go_enter Tryz.func31, Tryz.ntmps31
  go_wp2
  go_ret
  exact ⟨rfl, brf _⟩
set_option maxHeartbeats 800000 in
theorem lf31 (ks : List Nd) (v : Value) (w : World) (hr : RdK w ks v) (m : Nat) (hm : ks.length = m + 1) (h1 : 1 ≤ m) (y : Nd) (hy : ks[m]? = some y) :
    Calls Tryz.prog 31 #[.int .i64 31, v] w fun e w' => e = .returned (.bool (allK expK (ks.take m) && decide (y.kind = 26))) ∧ Below w.heap.size w w' := by
  have K1 : Hid (∀ w' v', RdK w' (ks.take m) v' → Calls Tryz.prog 30 #[.int .u64 281406257233920, v'] w' fun e w'' => e = .returned (.bool (allK expK (ks.take m))) ∧ Below w'.heap.size w' w'') := hide (fun w' v' hr' => iHasAll expK (ks.take m) v' w' (by decide) hr')
  rcases RdK_cases hr with ⟨h0, _⟩ | ⟨b, o, c, vs, hv, hn, hcs⟩
  · rw [h0] at hm; simp at hm
  subst hv
  have hcap := RdK_cap hr
  obtain ⟨k1, k2, k3, hts, hk⟩ := hcs m y hy
  have HT := hide (RdK_take hr m (by omega) c (by omega))
  obtain ⟨a', c'', hv'⟩ := RdK_slice hk
  rw [hv'] at k3
  rw [hm] at hn hcap ⊢
  have q0 : (1 : Int) ≤ (m : Int) := by omega
  have hmc : m ≤ c := by omega
  unfold maxLen at hn
  clear hr hk hcs
  cases hf : allK expK (ks.take m) with
  | false =>
    rw [hf] at K1
    clear hf
    rw [Bool.false_and]
    go_enter Tryz.func31, Tryz.ntmps31
    go_wp2_with (go_at_call 30; refine (unhide K1 _ _ (unhide HT)).mono ?_; rintro e v1 ⟨rfl, hb1⟩)
    go_ret
    exact ⟨rfl, hb1⟩
  | true =>
    rw [hf] at K1
    clear hf
    rw [Bool.true_and]
    have e1 : decide (y.kind = 26) = (y.kind == 26) := by rw [Bool.eq_iff_iff]; simp
    rw [e1]
    have K1' := hide k1
    generalize y.text = yt at *
    generalize y.kind = yk at *
    go_enter Tryz.func31, Tryz.ntmps31
    go_wp2_with (go_at_call 30; refine (unhide K1 _ _ (unhide HT)).mono ?_; rintro e v1 ⟨rfl, hb1⟩; have j1 := cell_later hb1 (unhide K1'))
    go_ret
    exact ⟨rfl, hb1⟩
end Go.Proofs.YtlcpmbdckmdabaaGreatDoor
