/- slices.Grow of nothing and slices.Concat, of ints and of strings. -/
import Derived.Test.YtlldfaniddbjaaaGreatDoorGN2
import Derived.Lib.AppendZeros
import Derived.Laws.AppendOwn
import Derived.Laws.OwnMore
namespace Go.Proofs.YtlldfaniddbjaaaGreatDoor
open Go.RowKit Gs
set_option linter.unusedVariables false
set_option maxRecDepth 100000
theorem OI.any {B : Nat} {v : Value} {xs : List Int} {W : World} (h : OI B W v xs) (hl : xs.length ≤ 4194304) : RS 1 RInt W 0 xs v := (h.read (by unfold maxLen; omega)).low RInt.lowers (Nat.zero_le _)
theorem ints_one (ys : List Int) : ∀ u ∈ ys.map (fun x => Value.int .i64 x), u.oneCell' = true := by
  intro u hu
  obtain ⟨s, _, rfl⟩ := List.mem_map.1 hu
  rfl
/-- Ints are appended, whatever slice they lie in. -/
theorem wpAppI {ops : Array Oper} {rest : List Oper} {o : Oper} {a : Act} {Q : Exit → Act → World → Prop} {w : World} (hg : o.guard = none) (s x : Operand) (hop : o.op = Op.call { callee := Callee.builtin Builtin.append, args := #[s, x], argTypes := #[29, 29] })
    (B : Nat) (v : Value) (xs : List Int) (hs : a.eval s = v) (hown : OI B w v xs) (xv : Value) (ys : List Int) (hx : a.eval x = xv) (hr : RS 1 RInt w 0 ys xv) (hlen : xs.length + ys.length ≤ 4194304) (hB : B ≤ w.heap.size)
    (hK : ∀ v' w', OI B w' v' (xs ++ ys) → w.grownBy w' v.ownBlock → wpList Tryz.prog ops Q rest (a.put o.dst v') w') : wpList Tryz.prog ops Q (o :: rest) a w := by
  obtain ⟨i0, hi, hz0, hz1, hz2⟩ := info_parts info3
  rcases hr.open with ⟨rfl, ad, c, rfl⟩ | ⟨b, off, c, rfl, hc, hn, _, hcs⟩
  · obtain ⟨sa, sl, sc, rfl, hle⟩ : ∃ sa sl sc, v = .slice sa sl sc ∧ sl ≤ sc := by
      rcases hown.2 with ⟨rfl, _⟩ | ⟨g, cap, cur, rfl, _, _, h, _⟩
      · exact ⟨_, _, _, rfl, Nat.le_refl _⟩
      · exact ⟨_, _, _, rfl, h⟩
    have hS : Src Tryz.prog i0.size 29 (.slice ad 0 c) 0 [] w := by
      cases ad with
      | none => exact Src.ofNil w Tryz.underlying29 c
      | some ad => exact Src.ofSlice w Tryz.underlying29 ad 0 c [] (by simp) (fun j u h => by simp at h) (fun _ h => by cases h)
    have hrun := run_append_nothing (P := Tryz.prog) w 29 29 o.type 3 i0 Tryz.underlying29 hi sa sl sc hle _ hS
    refine wpList_plain hg fun K hK' => ?_
    unfold Oper.wp
    simp [execOp, hop, resolve, invoke, builtin, hs, hx, hrun, Result.andThen]
    exact hK' _ _ (hK _ w (by simpa using hown) (World.grownBy.refl _ _))
  · refine wpList_append_own _ hg s x 29 hop B 3 i0 (.int .i64 0) 1 8 Tryz.underlying29 hi hz0 hz1 hz2 rfl (by decide) v xs.length (xs.map fun x => Value.int .i64 x) hs hown ⟨b, off, none⟩ ys.length c (ys.map fun x => Value.int .i64 x) hx (by simp) ?_ (ints_one ys) (by unfold maxLen; omega) (by omega) hB ?_
    · intro j u hj
      rw [List.getElem?_map, Option.map_eq_some_iff] at hj
      obtain ⟨y, hy, rfl⟩ := hj
      obtain ⟨u, hul, hat, hu⟩ := hcs j y hy
      subst hu
      have := hat.get (j := 0) rfl
      rw [Addr.add_lit]
      simpa using this
    · intro v' w' ho hgr _
      refine hK v' w' ?_ hgr
      unfold OI
      rw [List.length_append, List.map_append]; exact ho
theorem sum_take {α : Type} (xss : List (List α)) (k : Nat) (x : List α) (h : xss[k]? = some x) : ((xss.take (k + 1)).map List.length).sum = ((xss.take k).map List.length).sum + x.length := by
  rw [List.take_add_one, h, List.map_append, List.sum_append]; simp
theorem sum_le {α : Type} (xss : List (List α)) (k : Nat) : ((xss.take k).map List.length).sum ≤ (xss.map List.length).sum := by
  have : (xss.map List.length).sum = ((xss.take k).map List.length).sum + ((xss.drop k).map List.length).sum := by rw [← List.sum_append, ← List.map_append, List.take_append_drop]
  omega
theorem flat_take {α : Type} (xss : List (List α)) (k : Nat) (x : List α) (h : xss[k]? = some x) : (xss.take (k + 1)).flatten = (xss.take k).flatten ++ x := by
  rw [List.take_add_one, h, List.flatten_append]; simp
theorem flat_len {α : Type} (xss : List (List α)) : xss.flatten.length = (xss.map List.length).sum := by rw [List.length_flatten]
set_option maxHeartbeats 1600000 in
theorem iGrowS (n : Nat) (w : World) (hn : n ≤ 4194304) : Calls Tryz.prog 128 #[.slice none 0 0, .int .i64 (n : Int)] w fun e w' => (∃ v', e = .returned v' ∧ OS w.heap.size w' v' []) ∧ Below w.heap.size w w' := by
  obtain ⟨i0, hi, hz0, hz1, hz2⟩ := info_parts info9
  by_cases h0 : n = 0
  · subst h0
    go_enter Tryz.func128, Tryz.ntmps128
    go_wp2
    exact bodyPost_ret (v := .slice none 0 0) (by simp [results, Tryz.results128, go_sem]) rfl ⟨⟨_, rfl, OS_nil _ _⟩, brf _⟩
  · have hrun := fun ty => Lib.run_append_nil_zeros (P := Tryz.prog) w 22 3 ty 9 i0 (.string ByteArray.empty) .i64 .i64 Tryz.underlying22 Tryz.underlying3 hi hz0 n (by omega) (by omega) (by omega) (by rw [hz2]; omega)
    obtain ⟨C, hC⟩ : ∃ C, grownCap w n 0 9 = C := ⟨_, rfl⟩
    have hC1 : n ≤ C := by rw [← hC]; exact grownCap_ge w _ _ _
    have hC2 : C ≤ maxLen := by rw [← hC]; exact grownCap_le_maxLen w _ _ _ (by unfold maxLen; omega)
    rw [hC] at hrun
    have HS := hide (show (Builtin.zeroCells (Value.cells (.string ByteArray.empty)) n ++ Builtin.zeroCells (Value.cells (.string ByteArray.empty)) (C - n)).size = C * 1 by simp [size_zeroCells, Value.cells]; omega)
    generalize Builtin.zeroCells (Value.cells (.string ByteArray.empty)) n ++ Builtin.zeroCells (Value.cells (.string ByteArray.empty)) (C - n) = M at hrun HS
    have HC2 := hide hC2
    have hC3 : C ≤ 9223372036854775807 := by unfold maxLen at hC2; omega
    have hp : (0 : Int) < (n : Int) := by omega
    clear hi hz0 hz1 hz2 hC hC2
    go_enter Tryz.func128, Tryz.ntmps128
    go_wp2_with (first | (at_builtin; refine Lib.wpList_append_run _ rfl _ _ 22 3 rfl _ _ rfl rfl _ _ (hrun _) ?_))
    refine bodyPost_ret (v := .slice (some ⟨w.heap.size, 0, none⟩) 0 C) (by simp [results, Tryz.results128, go_sem]) rfl ⟨⟨_, rfl, ?_⟩, bal (bdr (brf w)) _⟩
    refine ⟨ World.ownsRow_made (w := w.drew) M C (Nat.le_refl _) (unhide HC2) (unhide HS), fun _ h => by cases h⟩
set_option maxHeartbeats 3200000 in
theorem iConcatS (xss : List (List ByteArray)) (v : Value) (w : World) (hn : xss.length ≤ 1048576) (hl : (xss.map List.length).sum ≤ 4194304) (hr : RS 1 (RL 1 RStr) w 0 xss v) :
    Calls Tryz.prog 108 #[v] w fun e w' => (∃ v', e = .returned v' ∧ OS w.heap.size w' v' xss.flatten) ∧ Below w.heap.size w w' := by
  rcases hr.open with ⟨rfl, a, c, rfl⟩ | ⟨b, o, c, rfl, hc, hnm, _, hcs⟩
  · clear hr
    go_enter Tryz.func108, Tryz.ntmps108
    go_wp2
    refine wp_loop_rounds 1 ?_
    rw [rounds_succ]
    go_wp2_with (first | (go_at_call 128; refine (iGrowS 0 _ (by omega)).mono ?_; rintro e W1 ⟨⟨v1, rfl, ho⟩, hb1⟩; have HO := hide ho; have HB := hide hb1; clear ho hb1))
    refine wp_loop_rounds 1 ?_
    rw [rounds_succ]
    go_wp2
    exact bodyPost_ret (v := v1) (by simp [results, Tryz.results108, go_sem]) rfl ⟨⟨_, rfl, unhide HO⟩, unhide HB⟩
  · have HC := hide hcs
    clear hcs hr hnm
    go_enter Tryz.func108, Tryz.ntmps108
    go_wp2
    go_loop [3, 11] (fun s i => ∃ k : Nat, k ≤ xss.length ∧ i = .int .i64 k ∧ s = .int .i64 ((((xss.take k).map List.length).sum : Nat) : Int)) (fun s i => xss.length - (intOf i).toNat)
    case atStart => exact ⟨0, Nat.zero_le _, rfl, rfl⟩
    case round =>
      obtain ⟨k, hk, rfl, rfl⟩ := hrel
      by_cases hlt : k < xss.length
      · have hx : xss[k]? = some xss[k] := List.getElem?_eq_getElem hlt
        generalize xss[k] = x at hx
        have hst := sum_take xss k x hx
        have hle := sum_le xss (k + 1)
        obtain ⟨u, hul, hat, ve, rfl, hve⟩ := unhide HC k x hx
        obtain ⟨ae, ce, rfl⟩ := hve.slice
        have k0 := hat.get (j := 0) rfl
        simp only [Nat.add_zero, Nat.mul_one] at k0
        clear hat hul HC hve
        generalize hS : ((xss.take k).map List.length).sum = S at *
        obtain ⟨S2, hS2⟩ : ∃ S2 : Nat, S2 = S + x.length := ⟨_, rfl⟩
        have q1 : (S : Int) + (x.length : Int) = (S2 : Int) := by omega
        have q2 : ¬ ((S2 : Int) < 0) := by omega
        have HH := hide hst
        have HH2 := hide hS2
        have HS2 : Hid (S2 ≤ 4194304) := hide (by omega)
        have hS3 : S2 ≤ 4194304 := by omega
        clear hst hS2 hS hle
        go_wp2
        go_round
        case rel => exact ⟨k + 1, by omega, by go_num, by rw [unhide HH, ← unhide HH2]⟩
        case measure => simp [intOf]; omega
      · obtain rfl : k = xss.length := by omega
        have ht : ((xss.take xss.length).map List.length).sum = (xss.map List.length).sum := by rw [List.take_of_length_le (Nat.le_refl _)]
        rw [ht]
        clear ht
        have HL := hide hl
        go_wp2_with (first | (go_at_call 128; refine (iGrowS _ _ (unhide HL)).mono ?_; rintro e W1 ⟨⟨v1, rfl, ho⟩, hb1⟩; have HO := hide ho; have HB := hide hb1; clear ho hb1))
        go_loopw [6, 27] (fun r i wr => ∃ k : Nat, k ≤ xss.length ∧ i = .int .i64 k ∧ OS w.heap.size wr r (xss.take k).flatten ∧ Below w.heap.size w wr) (fun r i wr => xss.length - (intOf i).toNat)
        case atStart => exact ⟨0, Nat.zero_le _, rfl, unhide HO, unhide HB⟩
        case round =>
          clear HO HB
          obtain ⟨k, hk, rfl, hown, hb⟩ := hrel
          have HO := hide hown
          have HB := hide hb
          by_cases hlt : k < xss.length
          · have hx : xss[k]? = some xss[k] := List.getElem?_eq_getElem hlt
            generalize xss[k] = x at hx
            have HST := hide (flat_take xss k x hx)
            have HLE := hide (show (xss.take k).flatten.length + x.length ≤ 4194304 by
              have h1 := sum_take xss k x hx
              have h2 := sum_le xss (k + 1)
              have h3 := flat_len (xss.take k)
              omega)
            obtain ⟨u, hul, hat, ve, rfl, hve⟩ := unhide HC k x hx
            have HV := hide (hve.later RStr.keeps hb)
            obtain ⟨ae, ce, rfl⟩ := hve.slice
            have k0 := cell_later hb (hat.get (j := 0) rfl)
            simp only [Nat.add_zero, Nat.mul_one] at k0
            have HSZ := hide hb.size
            clear hat hul HC hve hown hb hx
            go_wp2_with (first | (at_builtin; refine wpAppS rfl _ _ rfl w.heap.size _ _ rfl (unhide HO) _ x rfl (unhide HV) (unhide HLE) (unhide HSZ) ?_; intro v2 w2 ho2 hg2))
            have R2 := below_grown (unhide HB) hg2 (unhide HSZ) (own_row (unhide HO).1)
            go_roundw
            case rel => exact ⟨k + 1, by omega, by go_num, by rw [unhide HST]; exact ho2, R2⟩
            case measure => simp [intOf]; omega
          · obtain rfl : k = xss.length := by omega
            have ht : (xss.take xss.length).flatten = xss.flatten := by rw [List.take_of_length_le (Nat.le_refl _)]
            rw [ht] at HO
            clear hown hb HC ht
            go_wp2
            exact bodyPost_ret (v := u6) (by simp [results, Tryz.results108, go_sem]) rfl ⟨⟨_, rfl, unhide HO⟩, unhide HB⟩
end Go.Proofs.YtlldfaniddbjaaaGreatDoor
namespace Go.Proofs.YtlldfaniddbjaaaGreatDoor
open Go Go.RowKit Gs
set_option linter.unusedVariables false
set_option maxRecDepth 100000
theorem fm_take {α β : Type} (f : α → List β) (xs : List α) (k : Nat) (x : α) (h : xs[k]? = some x) : (xs.take (k + 1)).flatMap f = (xs.take k).flatMap f ++ f x := by
  rw [List.take_add_one, h, List.flatMap_append]; simp
theorem fm_len {α β : Type} {f : α → List β} {k : Nat} (hf : ∀ x, (f x).length = k) (xs : List α) : (xs.flatMap f).length = xs.length * k := by
  induction xs with
  | nil => simp
  | cons x r ih => rw [List.flatMap_cons, List.length_append, ih, hf, List.length_cons, Nat.add_mul, Nat.one_mul, Nat.add_comm]
theorem fm_get {α β : Type} {f : α → List β} {k : Nat} (hf : ∀ x, (f x).length = k) : ∀ (xs : List α) (i j : Nat) (x : α) (y : β), xs[i]? = some x → (f x)[j]? = some y → (xs.flatMap f)[i * k + j]? = some y
  | [], i, j, x, y, h, _ => by simp at h
  | x0 :: r, 0, j, x, y, h, hj => by
    simp at h; subst h
    have hjl : j < (f x0).length := (List.getElem?_eq_some_iff.1 hj).1
    rw [List.flatMap_cons, Nat.zero_mul, Nat.zero_add, List.getElem?_append_left hjl]
    exact hj
  | x0 :: r, i + 1, j, x, y, h, hj => by
    simp at h
    have ih := fm_get hf r i j x y h hj
    rw [List.flatMap_cons, List.getElem?_append_right (by rw [hf, Nat.add_mul, Nat.one_mul]; omega), hf, show (i + 1) * k + j - k = i * k + j by rw [Nat.add_mul, Nat.one_mul]; omega]
    exact ih
/-- A row of one's own that holds things of k cells each. -/
def OW {α : Type} (t k : Nat) (f : α → List Value) (B : Nat) (W : World) (v : Value) (xs : List α) : Prop := W.ownsRow B t k v xs.length (xs.flatMap f)
section
variable {α : Type} {t k : Nat} {f : α → List Value} {B : Nat} {v : Value} {xs : List α} {W W' : World}
theorem OW.nil : OW t k f B W (.slice none 0 0) ([] : List α) := World.ownsRow_nil _ _ _ _
theorem OW.later (h : OW t k f B W v xs) (hb : Below W.heap.size W W') : OW t k f B W' v xs := by
  obtain ⟨h1, h2 | ⟨g, cap, cur, hv, hg, hc, rest⟩⟩ := h
  · exact ⟨h1, .inl h2⟩
  · exact ⟨h1, .inr ⟨g, cap, cur, hv, hg, (hb.block g (Array.getElem?_eq_some_iff.1 hc).1).trans hc, rest⟩⟩
theorem OW.row (h : OW t k f B W v xs) : ∀ j, v.ownBlock = some j → B ≤ j := fun j hj => (World.ownsRow.lt h j hj).1
theorem OW.slice (h : OW t k f B W v xs) : ∃ a c, v = .slice a xs.length c ∧ xs.length ≤ c := by
  rcases h.2 with ⟨rfl, h0⟩ | ⟨g, cap, cur, rfl, _, _, hc, _⟩
  · exact ⟨_, _, by rw [h0], by omega⟩
  · exact ⟨_, _, rfl, hc⟩
/-- What is read of it. -/
theorem OW.read (hf : ∀ x, (f x).length = k) {R : Rd α} (hR : ∀ x ∈ xs, R W B x (f x)) (h : OW t k f B W v xs) (hl : xs.length ≤ maxLen) : RS k R W B xs v := by
  have hc := fun g hg => World.ownsRow.cells h (g := g) hg
  rcases h.2 with ⟨rfl, hn⟩ | ⟨g, cap, cur, rfl, hb, hg, hlc, hm, _⟩
  · have : xs = [] := List.length_eq_zero_iff.1 hn
    subst this
    exact RS.nil _ _ _ _ _ _
  · refine ⟨_, _, rfl, hlc, hl, fun _ => ⟨g, 0, rfl, hb, fun i x hx => ⟨f x, hf x, fun j y hj => ?_, hR x (List.mem_of_getElem? hx)⟩⟩⟩
    have := hc g rfl (i * k + j) y (fm_get hf xs i j x y hx hj)
    rw [Addr.add_lit] at this
    simpa using this
end
/-- Things are appended, whatever slice they lie in. -/
theorem wpAppW {α : Type} {t ts k by_ : Nat} {f : α → List Value} (z : Value) (hu : Tryz.prog.underlying ts = some (.slice t)) (hinf : (Tryz.prog.info? t).map (fun i => (i.zero, i.size, i.bytes)) = some (some z, k, by_)) (hzs : z.cells.size = k) (hk : 0 < k) (hbl : by_ ≤ 256)
    (hf : ∀ x, (f x).length = k) (h1 : ∀ x, ∀ u ∈ f x, u.oneCell' = true)
    {ops : Array Oper} {rest : List Oper} {o : Oper} {a : Act} {Q : Exit → Act → World → Prop} {w : World} (hg : o.guard = none) (s x : Operand) (hop : o.op = Op.call { callee := Callee.builtin Builtin.append, args := #[s, x], argTypes := #[ts, ts] })
    (B : Nat) (v : Value) (xs : List α) (hs : a.eval s = v) (hown : OW t k f B w v xs) (xv : Value) (ys : List α) {R : Rd α} (hR : ∀ x u, R w 0 x u → u = f x) (hx : a.eval x = xv) (hr : RS k R w 0 ys xv) (hlen : xs.length + ys.length ≤ 4194304) (hB : B ≤ w.heap.size)
    (hK : ∀ v' w', OW t k f B w' v' (xs ++ ys) → w.grownBy w' v.ownBlock → wpList Tryz.prog ops Q rest (a.put o.dst v') w') : wpList Tryz.prog ops Q (o :: rest) a w := by
  obtain ⟨i0, hi, hz0, hz1, hz2⟩ := info_parts hinf
  rcases hr.open with ⟨rfl, ad, c, rfl⟩ | ⟨b, off, c, rfl, hc, hn, _, hcs⟩
  · obtain ⟨sa, sl, sc, rfl, hle⟩ : ∃ sa sl sc, v = .slice sa sl sc ∧ sl ≤ sc := by
      rcases hown.2 with ⟨rfl, _⟩ | ⟨g, cap, cur, rfl, _, _, h, _⟩
      · exact ⟨_, _, _, rfl, Nat.le_refl _⟩
      · exact ⟨_, _, _, rfl, h⟩
    have hS : Src Tryz.prog i0.size ts (.slice ad 0 c) 0 [] w := by
      cases ad with
      | none => exact Src.ofNil w hu c
      | some ad => exact Src.ofSlice w hu ad 0 c [] (by simp) (fun j u h => by simp at h) (fun _ h => by cases h)
    have hrun := run_append_nothing (P := Tryz.prog) w ts ts o.type t i0 hu hi sa sl sc hle _ hS
    refine wpList_plain hg fun K hK' => ?_
    unfold Oper.wp
    simp [execOp, hop, resolve, invoke, builtin, hs, hx, hrun, Result.andThen]
    exact hK' _ _ (hK _ w (by simpa using hown) (World.grownBy.refl _ _))
  · refine wpList_append_own _ hg s x ts hop B t i0 z k by_ hu hi hz0 hz1 hz2 hzs hk v xs.length (xs.flatMap f) hs hown ⟨b, off, none⟩ ys.length c (ys.flatMap f) hx (fm_len hf ys) ?_ ?_ (by unfold maxLen; omega) (by
        have : (xs.length + ys.length) * by_ ≤ 4194304 * 256 := Nat.mul_le_mul hlen hbl
        omega) hB ?_
    · intro j u hj
      have hjl : j < ys.length * k := by rw [← fm_len hf ys]; exact (List.getElem?_eq_some_iff.1 hj).1
      have hd : j / k * k + j % k = j := Nat.div_add_mod' j k
      have hq : j / k < ys.length := Nat.div_lt_of_lt_mul (by rw [Nat.mul_comm]; exact hjl)
      have hm : j % k < k := Nat.mod_lt _ hk
      have hy : ys[j / k]? = some ys[j / k] := List.getElem?_eq_getElem hq
      obtain ⟨c0, hul, hat, hr0⟩ := hcs (j / k) _ hy
      have hc0 := hR _ _ hr0
      subst hc0
      have hy2 : (f ys[j / k])[j % k]? = some (f ys[j / k])[j % k] := List.getElem?_eq_getElem (by rw [hf]; exact hm)
      have h3 := fm_get hf ys _ _ _ _ hy hy2
      rw [hd, hj] at h3
      have h4 := hat _ _ hy2
      rw [Addr.add_lit]
      cases h3
      rw [show off + j = off + j / k * k + j % k by omega]
      exact h4
    · intro u hu
      obtain ⟨y, _, hy⟩ := List.mem_flatMap.1 hu
      exact h1 y u hy
    · intro v' w' ho hgr _
      refine hK v' w' ?_ hgr
      unfold OW
      rw [List.length_append, List.flatMap_append]; exact ho
end Go.Proofs.YtlldfaniddbjaaaGreatDoor
namespace Go.Proofs.YtlldfaniddbjaaaGreatDoor
open Go.RowKit Gs
set_option linter.unusedVariables false
set_option maxRecDepth 100000
/-- Whether something holds at each number below k. -/
def upB (p : Nat → Bool) (k : Nat) : Bool := (List.range k).all p
theorem upB_zero (p : Nat → Bool) : upB p 0 = true := rfl
theorem upB_succ (p : Nat → Bool) (k : Nat) : upB p (k + 1) = (upB p k && p k) := by
  unfold upB
  rw [List.range_succ, List.all_append]; simp
theorem upB_false {p : Nat → Bool} {k n : Nat} (hk : k < n) (h : p k = false) : upB p n = false := by
  rw [← Bool.not_eq_true]
  intro e
  have := List.all_eq_true.1 e k (List.mem_range.2 hk)
  rw [h] at this
  cases this
theorem upB_at {p : Nat → Bool} {k n : Nat} (h : upB p n = true) (hk : k < n) : p k = true := List.all_eq_true.1 h k (List.mem_range.2 hk)
/-- Whether a number is one of so many places. -/
def plB (x : Int) (n : Nat) : Bool := decide (0 ≤ x) && decide (x < (n : Int))
/-- Whether a list has a number. -/
def hasB (xs : List Int) (x : Int) : Bool := xs.any (fun y => decide (x = y))
theorem hasB_take {xs : List Int} {k : Nat} {y : Int} (h : xs[k]? = some y) (x : Int) : hasB (xs.take (k + 1)) x = (hasB (xs.take k) x || decide (x = y)) := by
  unfold hasB
  rw [List.take_add_one, h, List.any_append]; simp
theorem hasB_mem {xs : List Int} {k : Nat} {x : Int} (h : xs[k]? = some x) : hasB xs x = true := by
  unfold hasB
  rw [List.any_eq_true]
  exact ⟨x, List.mem_of_getElem? h, by simp⟩
theorem hasB_nil (x : Int) : hasB [] x = false := rfl
/-- A table's source at a place: it is there, and none ahead of it is the same. -/
def inAt (n : Nat) (xs : List Int) (k : Nat) : Bool := plB (xs.getD k 0) n && !hasB (xs.take k) (xs.getD k 0)
theorem inAt_at {n : Nat} {xs : List Int} {k : Nat} {x : Int} (h : xs[k]? = some x) : inAt n xs k = (plB x n && !hasB (xs.take k) x) := by
  unfold inAt
  rw [show xs.getD k 0 = x by rw [List.getD_eq_getElem?_getD, h]; rfl]
def insB (n : Nat) (xs : List Int) : Bool := upB (inAt n xs) xs.length
def tmask (k : Nat) : Nat := 2 ^ 2 ^ k - 1
theorem tmask_lt {k : Nat} (h : k ≤ 4) : tmask k < 65536 := by
  match k, h with
  | 0, _ => decide
  | 1, _ => decide
  | 2, _ => decide
  | 3, _ => decide
  | 4, _ => decide
/-- Whether a table may stand behind so many sources. -/
structure Lut where
  inp : List Int
  table : Int
def lutB (n : Nat) (x : Lut) : Bool := decide (x.inp.length ≤ 4) && (decide (0 ≤ x.table) && (decide (x.table ≤ ((tmask x.inp.length : Nat) : Int)) && insB n x.inp))
def lut0 : Lut := ⟨[], 0⟩
def lutAt (f : Nat) (xs : List Lut) (k : Nat) : Bool := lutB (f + k) (xs.getD k lut0)
theorem lutAt_at {f : Nat} {xs : List Lut} {k : Nat} {x : Lut} (h : xs[k]? = some x) : lutAt f xs k = lutB (f + k) x := by
  unfold lutAt
  rw [show xs.getD k lut0 = x by rw [List.getD_eq_getElem?_getD, h]; rfl]
def lutsB (f : Nat) (xs : List Lut) : Bool := upB (lutAt f xs) xs.length
set_option maxHeartbeats 1600000 in
theorem iMask (k : Nat) (hk : k ≤ 4) (w : World) : Calls Tryz.prog 125 #[.int .i64 (k : Int)] w fun e w' => e = .returned (.int .i64 ((tmask k : Nat) : Int)) ∧ w' = w := by
  match k, hk with
  | 0, _ => (go_enter Tryz.func125, Tryz.ntmps125; go_wp2; exact bodyPost_ret (v := .int .i64 1) (by simp [results, Tryz.results125, go_sem]; try decide) rfl ⟨rfl, rfl⟩)
  | 1, _ => (go_enter Tryz.func125, Tryz.ntmps125; go_wp2; exact bodyPost_ret (v := .int .i64 3) (by simp [results, Tryz.results125, go_sem]; try decide) rfl ⟨rfl, rfl⟩)
  | 2, _ => (go_enter Tryz.func125, Tryz.ntmps125; go_wp2; exact bodyPost_ret (v := .int .i64 15) (by simp [results, Tryz.results125, go_sem]; try decide) rfl ⟨rfl, rfl⟩)
  | 3, _ => (go_enter Tryz.func125, Tryz.ntmps125; go_wp2; exact bodyPost_ret (v := .int .i64 255) (by simp [results, Tryz.results125, go_sem]; try decide) rfl ⟨rfl, rfl⟩)
  | 4, _ => (go_enter Tryz.func125, Tryz.ntmps125; go_wp2; exact bodyPost_ret (v := .int .i64 65535) (by simp [results, Tryz.results125, go_sem]; try decide) rfl ⟨rfl, rfl⟩)
set_option maxHeartbeats 1600000 in
theorem sMask (k : Nat) (hk : k ≤ 4) (w : World) : Calls Tryz.prog 79 #[.int .i64 (k : Int)] w fun e w' => e = .returned (.int .i64 ((tmask k : Nat) : Int)) ∧ w' = w := by
  match k, hk with
  | 0, _ => (go_enter Tryz.func79, Tryz.ntmps79; go_wp2; exact bodyPost_ret (v := .int .i64 1) (by simp [results, Tryz.results79, go_sem]; try decide) rfl ⟨rfl, rfl⟩)
  | 1, _ => (go_enter Tryz.func79, Tryz.ntmps79; go_wp2; exact bodyPost_ret (v := .int .i64 3) (by simp [results, Tryz.results79, go_sem]; try decide) rfl ⟨rfl, rfl⟩)
  | 2, _ => (go_enter Tryz.func79, Tryz.ntmps79; go_wp2; exact bodyPost_ret (v := .int .i64 15) (by simp [results, Tryz.results79, go_sem]; try decide) rfl ⟨rfl, rfl⟩)
  | 3, _ => (go_enter Tryz.func79, Tryz.ntmps79; go_wp2; exact bodyPost_ret (v := .int .i64 255) (by simp [results, Tryz.results79, go_sem]; try decide) rfl ⟨rfl, rfl⟩)
  | 4, _ => (go_enter Tryz.func79, Tryz.ntmps79; go_wp2; exact bodyPost_ret (v := .int .i64 65535) (by simp [results, Tryz.results79, go_sem]; try decide) rfl ⟨rfl, rfl⟩)
end Go.Proofs.YtlldfaniddbjaaaGreatDoor
