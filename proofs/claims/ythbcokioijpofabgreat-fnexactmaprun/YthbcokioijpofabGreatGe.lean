/- latchesFit. -/
import Derived.Test.YthbcokioijpofabGreatGd
import Derived.Test.YthbcokioijpofabGreatGS
import Derived.Test.YthbcokioijpofabGreatBase
import Derived.Maps.OwnSet
namespace Go.Proofs.YthbcokioijpofabGreat
open Go Go.RowKit Gs
set_option linter.unusedVariables false
set_option linter.unusedSimpArgs false
set_option maxRecDepth 100000
def latchB (n1 : Nat) (l : MapReg) : Bool := (decide (0 ≤ l.init) && decide (l.init < 2)) && (decide (0 ≤ l.clock) && decide (l.clock < (n1 : Int)))
set_option maxHeartbeats 16000000 in
theorem iMapReges (s0 s1 s2 s3 s4 s5 : Option Addr) (l0 l1 l2 l3 l4 l5 c0 c1 c2 c3 c4 c5 : Nat) (xs : List MapReg) (w : World) (hl1 : l1 ≤ 1048576) (hl2 : xs.length ≤ 1048576) (h2 : RS 4 RMapReg w 0 xs (.slice s2 l2 c2)) :
    Calls Tryz.prog 64 #[.agg #[.slice s0 l0 c0, .slice s1 l1 c1, .slice s2 l2 c2, .slice s3 l3 c3, .slice s4 l4 c4, .slice s5 l5 c5]] w fun e w' => e = .returned (.bool (xs.all (latchB l1))) ∧ Below w.heap.size w w' := by
  have HC1 : Hid (∀ V, Below (w.alloc (.cells #[.slice s0 l0 c0, .slice s1 l1 c1, .slice s2 l2 c2, .slice s3 l3 c3, .slice s4 l4 c4, .slice s5 l5 c5] 38)).heap.size (w.alloc (.cells #[.slice s0 l0 c0, .slice s1 l1 c1, .slice s2 l2 c2, .slice s3 l3 c3, .slice s4 l4 c4, .slice s5 l5 c5] 38)) V → V.cell? ⟨w.heap.size, 1, none⟩ = some (.slice s1 l1 c1)) := hide (fun V hb => cell_later hb (by rw [World.cell?_alloc_new]; rfl))
  obtain ⟨W, hW⟩ : ∃ W, W = w.alloc (.cells #[.slice s0 l0 c0, .slice s1 l1 c1, .slice s2 l2 c2, .slice s3 l3 c3, .slice s4 l4 c4, .slice s5 l5 c5] 38) := ⟨_, rfl⟩
  have HW : Hid (Below w.heap.size w W) := hide (by rw [hW]; exact bal (brf w) _)
  rw [← hW] at HC1
  obtain ⟨hlen, hcs⟩ : l2 = xs.length ∧ (xs ≠ [] → ∃ b o, s2 = some ⟨b, o, none⟩ ∧ ∀ i x, xs[i]? = some x → ∃ u, u.length = 4 ∧ At w b (o + i * 4) u ∧ RMapReg w 0 x u) := by
    obtain ⟨a, c, hv, _, _, h⟩ := h2
    injection hv with e1 e2 e3
    refine ⟨e2, fun hne => ?_⟩
    obtain ⟨b, o, ha, _, hh⟩ := h hne
    exact ⟨b, o, by rw [e1, ha], hh⟩
  subst hlen
  clear h2
  by_cases hne : xs = []
  · subst hne
    have HWb : Hid (Below w.heap.size w (w.alloc (.cells #[.slice s0 l0 c0, .slice s1 l1 c1, .slice s2 0 c2, .slice s3 l3 c3, .slice s4 l4 c4, .slice s5 l5 c5] 38))) := hide (bal (brf w) _)
    clear HC1 HW hW hcs
    go_enter Tryz.func64, Tryz.ntmps64
    go_wp2
    refine wp_loop_rounds 1 ?_
    rw [rounds_succ]
    go_wp2
    exact bodyPost_ret (v := .bool true) (by simp [results, Tryz.results64, go_sem]) rfl ⟨rfl, unhide HWb⟩
  · obtain ⟨b, o, rfl, hcx⟩ := hcs hne
    have HC := hide hcx
    clear hcs hcx hne
    go_enter Tryz.func64, Tryz.ntmps64
    go_wp2
    rw [← hW]
    go_loopw [8] (fun i wr => ∃ k : Nat, k ≤ xs.length ∧ i = .int .i64 k ∧ (xs.take k).all (latchB l1) = true ∧ Below W.heap.size W wr) (fun i wr => xs.length - (intOf i).toNat)
    case atStart => exact ⟨0, Nat.zero_le _, rfl, rfl, brf _⟩
    case round =>
      obtain ⟨k, hk, rfl, hall, hb⟩ := hrel
      have HA := hide hall
      clear hall hW
      by_cases hlt : k < xs.length
      · have hx : xs[k]? = some xs[k] := List.getElem?_eq_getElem hlt
        have hmem : xs[k] ∈ xs := List.getElem_mem hlt
        generalize xs[k] = x at hx hmem
        have HST := hide (show (xs.take (k + 1)).all (latchB l1) = ((xs.take k).all (latchB l1) && latchB l1 x) by rw [List.take_add_one, hx, List.all_append]; simp)
        have HF : Hid (latchB l1 x = false → xs.all (latchB l1) = false) := hide (fun h => by rw [← Bool.not_eq_true]; intro e; rw [List.all_eq_true.1 e x hmem] at h; cases h)
        obtain ⟨u, hul, hat, hus, hsz⟩ := unhide HC k x hx
        subst hus
        have k0 := cell_later (btr (unhide HW) hb) (hat.get (j := 0) rfl)
        have k1 := cell_later (btr (unhide HW) hb) (hat.get (j := 1) rfl)
        have k2 := cell_later (btr (unhide HW) hb) (hat.get (j := 2) rfl)
        have k3 := cell_later (btr (unhide HW) hb) (hat.get (j := 3) rfl)
        simp only [Nat.add_zero] at k0
        have m1 := cell_later (bal (brf wr) (.cells #[.string x.name, .int .i64 x.src, .int .i64 x.init, .int .i64 x.clock] 69)) (unhide HC1 wr hb)
        have HB := hide (bal (btr (unhide HW) hb) (.cells #[.string x.name, .int .i64 x.src, .int .i64 x.init, .int .i64 x.clock] 69))
        have HB2 := hide (bal hb (.cells #[.string x.name, .int .i64 x.src, .int .i64 x.init, .int .i64 x.clock] 69))
        clear hat hul HC hx hmem hb hsz
        have hdef : latchB l1 x = ((decide (0 ≤ x.init) && decide (x.init < 2)) && (decide (0 ≤ x.clock) && decide (x.clock < (l1 : Int)))) := rfl
        generalize latchB l1 x = B at *
        generalize x.name = nm at *
        generalize x.src = z1 at *
        generalize x.init = z2 at *
        generalize x.clock = z3 at *
        generalize hp1 : (decide (0 ≤ z2) && decide (z2 < 2)) = p1 at *
        generalize hp2 : (decide (0 ≤ z3) && decide (z3 < (l1 : Int))) = p2 at *
        have HD := hide hdef
        have HP1 := hide hp1
        have HP2 := hide hp2
        clear hdef hp1 hp2
        cases p1
        · go_wp2_with fail
          refine (iPlace z2 2 _).mono ?_
          rintro e W1 ⟨rfl, h⟩
          subst h
          rw [unhide HP1]
          go_wp2_with fail
          exact bodyPost_ret (v := .bool false) (by simp [results, Tryz.results64, go_sem]) rfl ⟨by rw [unhide HF (unhide HD)], unhide HB⟩
        · cases p2
          · go_wp2_with fail
            refine (iPlace z2 2 _).mono ?_
            rintro e W1 ⟨rfl, h⟩
            subst h
            rw [unhide HP1]
            go_wp2_with fail
            refine (iPlace z3 l1 _).mono ?_
            rintro e W2 ⟨rfl, h⟩
            subst h
            rw [unhide HP2]
            go_wp2_with fail
            exact bodyPost_ret (v := .bool false) (by simp [results, Tryz.results64, go_sem]) rfl ⟨by rw [unhide HF (unhide HD)], unhide HB⟩
          · go_wp2_with fail
            refine (iPlace z2 2 _).mono ?_
            rintro e W1 ⟨rfl, h⟩
            subst h
            rw [unhide HP1]
            go_wp2_with fail
            refine (iPlace z3 l1 _).mono ?_
            rintro e W2 ⟨rfl, h⟩
            subst h
            rw [unhide HP2]
            go_wp2_with fail
            go_roundw
            case rel => exact ⟨k + 1, by omega, by go_num, by rw [unhide HST, unhide HA, unhide HD]; rfl, unhide HB2⟩
            case measure => simp [intOf]; omega
      · obtain rfl : k = xs.length := by omega
        have HB := hide (btr (unhide HW) hb)
        clear HC hb
        go_wp2
        refine bodyPost_ret (v := .bool true) (by simp [results, Tryz.results64, go_sem]) rfl ⟨ret_bool ?_, unhide HB⟩
        have h := unhide HA
        rw [List.take_of_length_le (Nat.le_refl _)] at h
        exact h.symm
end Go.Proofs.YthbcokioijpofabGreat
namespace Go.Proofs.YthbcokioijpofabGreat
open Go.RowKit Gs Go.Maps Go.WideMaps
set_option linter.unusedVariables false
set_option maxRecDepth 100000
def keyL (s : ByteArray) : Lit := .string s.data.toList
theorem keyL_inj {a b : ByteArray} (h : keyL a = keyL b) : a = b := by
  unfold keyL at h
  injection h with h
  exact L_inj h
theorem keyL_key (s : ByteArray) : WideAt.IsKeyLit (keyL s) := by simp [keyL, WideAt.IsKeyLit]
/-- The map behind the first k names. -/
def Pm (ss : List ByteArray) : Nat → DataW Unit
  | 0 => .map []
  | k + 1 => (Pm ss k).put (keyL (ss.getD k ByteArray.empty)) (.lit (.int .i64 k))
theorem Pm_tidy (ss : List ByteArray) : ∀ k, Tidy (Pm ss k)
  | 0 => tidy_empty
  | k + 1 => (Pm_tidy ss k).put (keyL_key _) _
theorem Pm_has (ss : List ByteArray) (s : ByteArray) : ∀ k, k ≤ ss.length → (Maps.has (Pm ss k) (keyL s) = true ↔ s ∈ ss.take k)
  | 0, _ => by simp [Pm, Maps.has_eq]
  | k + 1, h => by
    have hk : ss[k]? = some ss[k] := List.getElem?_eq_getElem (by omega)
    have hg : ss.getD k ByteArray.empty = ss[k] := by simp [List.getD, hk]
    rw [List.take_add_one, hk, Pm, hg]
    by_cases e : s = ss[k]
    · subst e
      simp only [has_put_same (Pm_tidy ss k).isMap (keyL_key _), Option.toList_some, List.mem_append, List.mem_singleton, or_true]
    · rw [has_put_other (fun h => e (keyL_inj h)), Pm_has ss s k (by omega)]
      simp only [Option.toList_some, List.mem_append, List.mem_singleton, e, or_false]
theorem Pm_size (ss : List ByteArray) : ∀ k, k ≤ ss.length → Maps.size (Pm ss k) ≤ k ∧ (Maps.size (Pm ss k) = k ↔ (ss.take k).Nodup)
  | 0, _ => by simp [Pm, Maps.size_eq]
  | k + 1, h => by
    have hk : ss[k]? = some ss[k] := List.getElem?_eq_getElem (by omega)
    have hg : ss.getD k ByteArray.empty = ss[k] := by simp [List.getD, hk]
    obtain ⟨ih1, ih2⟩ := Pm_size ss k (by omega)
    have hh := Pm_has ss ss[k] k (by omega)
    rw [List.take_add_one, hk, Pm, hg, size_put (Pm_tidy ss k)]
    simp only [Option.toList_some, List.nodup_append, List.nodup_cons, List.not_mem_nil, not_false_eq_true, List.nodup_nil, and_true, true_and, List.mem_singleton]
    by_cases e : Maps.has (Pm ss k) (keyL ss[k]) = true
    · rw [if_pos e]
      refine ⟨by omega, ⟨fun q => by omega, fun q => ?_⟩⟩
      exact absurd rfl (q.2 _ (hh.1 e) _ rfl)
    · rw [if_neg e]
      refine ⟨by omega, ⟨fun q => ⟨ih2.1 (by omega), fun a ha b hb hab => ?_⟩, fun q => by have := ih2.2 q.1; omega⟩⟩
      subst hb hab
      exact e (hh.2 ha)
theorem beq_nat (a b : Nat) : (((a : Nat) : Int) == ((b : Nat) : Int)) = decide (a = b) := by
  rw [show (((a : Nat) : Int) == ((b : Nat) : Int)) = decide ((a : Int) = (b : Int)) from rfl]
  exact decide_eq_decide.2 (by omega)
theorem law9 : Keyed Tryz.prog 9 := string_keyed Tryz.underlying9
set_option maxHeartbeats 1600000 in
theorem iAllNew (ss : List ByteArray) (v : Value) (w : World) (hl : ss.length ≤ 2097152) (hr : RS 1 RStr w 0 ss v) :
    Calls Tryz.prog 89 #[v] w fun e w' => e = .returned (.bool (decide ss.Nodup)) ∧ Below w.heap.size w w' := by
  have hmm := @run_makeMap Tryz.prog
  rcases hr.open with ⟨rfl, a, c, rfl⟩ | ⟨b, o, c, rfl, hc, hn, _, hcs⟩
  · clear hr
    go_enter Tryz.func89, Tryz.ntmps89
    go_wp2
    refine wp_loop_rounds 1 ?_
    rw [rounds_succ]
    go_wp2_with (first
      | (at_len; refine wpList_len_own _ rfl _ 161 rfl 9 3 Tryz.underlying161 (plainElem (H := Unit) Tryz.prog 3) w.heap.size 0 (.map []) rfl (World.ownsMap_made _ _ _ _) ?_)
      | go_in)
    go_ret
    exact ⟨by simp [Maps.size_eq], (Below.refl _ _).alloc (Nat.le_refl _) _⟩
  · unfold maxLen at hn
    have HC := hide hcs
    clear hcs hr
    go_enter Tryz.func89, Tryz.ntmps89
    go_wp2
    go_loopw [9] (fun i wr => ∃ k : Nat, k ≤ ss.length ∧ i = .int .i64 k ∧ wr.ownsMap Tryz.prog 9 (plainElem Tryz.prog 3) w.heap.size k (Pm ss k) ∧ Below w.heap.size w wr) (fun i _ => ss.length - (intOf i).toNat)
    case atStart => exact ⟨0, Nat.zero_le _, rfl, World.ownsMap_made _ _ _ _, (Below.refl _ _).alloc (Nat.le_refl _) _⟩
    case round =>
      obtain ⟨k, hk, rfl, hown, hnx⟩ := hrel
      by_cases hlt : k < ss.length
      · obtain ⟨s, hs⟩ : ∃ s, ss[k]? = some s := ⟨_, List.getElem?_eq_getElem (by omega)⟩
        obtain ⟨u, hul, hat, hus, hsz⟩ := unhide HC k s hs
        subst hus
        have hcx := cell_later hnx (hat.get (j := 0) rfl)
        simp only [Nat.add_zero, Nat.mul_one] at hcx
        have hgd : ss.getD k ByteArray.empty = s := by simp [List.getD, hs]
        have hkey : keyOf Tryz.prog 9 (.string s) = some (keyL s) := keyOf_string_mk Tryz.underlying9 hsz
        have HST : Hid (Pm ss (k + 1) = (Pm ss k).put (keyL s) (.lit (.int .i64 k))) := hide (by rw [Pm, hgd])
        clear hgd hat hul HC
        go_wp2_with (first
          | (at_mapUpdate; refine wpList_mapUpdate_own _ rfl _ _ _ 161 rfl 9 3 law9 Tryz.underlying161 _ w.heap.size k _ rfl hown (by unfold maxLen; omega) _ _ _ rfl rfl hkey _ [] (plainElem_int Tryz.underlying3 (WalkArith.wf_i64 (by omega))) ?_; intro w1 hown1 hgrow1)
          | go_in)
        go_roundw
        case rel => exact ⟨k + 1, by omega, by go_num, by rw [unhide HST]; exact hown1, hnx.grown hgrow1 hnx.size (fun j hj => by cases hj; exact Nat.le_refl _)⟩
        case measure => simp [intOf]; omega
      · obtain hkl : k = ss.length := by omega
        subst hkl
        have hsz := Pm_size ss ss.length (Nat.le_refl _)
        rw [List.take_of_length_le (Nat.le_refl _)] at hsz
        have HSZ := hide hsz
        clear hsz HC
        go_wp2_with (first
          | (at_len; refine wpList_len_own _ rfl _ 161 rfl 9 3 Tryz.underlying161 _ w.heap.size ss.length _ rfl hown ?_)
          | go_in)
        go_ret
        refine ⟨?_, hnx⟩
        refine ret_bool ?_
        rw [beq_nat]
        exact decide_eq_decide.2 (unhide HSZ).2
end Go.Proofs.YthbcokioijpofabGreat
