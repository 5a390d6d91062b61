/- The program's look: a process of any kind. -/
import Derived.Test.YtgkfhaahcedbpaaP12b
import Derived.Test.YtgkfhaahcedbpaaP12c
import Derived.Test.YtgkfhaahcedbpaaP12d
import Derived.Test.YtgkfhaahcedbpaaGDD
import Derived.Test.YtgkfhaahcedbpaaGI1
import Derived.Maps.OwnSet
import Derived.Test.YtgkfhaahcedbpaaGGS2
import Derived.OwnWalk
namespace Go.Proofs.Ytgkfhaahcedbpaa
open Go Go.RowKit Gs
set_option linter.unusedVariables false
set_option linter.unusedSimpArgs false
set_option maxRecDepth 100000

theorem stOf_lt (k : Int) : stOf k < 2 ^ 48 := by
  unfold stOf
  repeat' split
  all_goals decide
theorem setOf_lt (k : Int) : setOf k < 2 ^ 48 := by
  unfold setOf
  repeat' split
  all_goals decide
theorem iProc (sg : List Signal) (w0 : World) (sv : Value) (T : TypeId) (d : Nat) (hsg : RS 6 RSignal w0 0 sg sv) (hsl : sg.length ≤ 1048576) (p : Proc) (u : List Value) (k : Nat) (W : World) (hr : RProcN d w0 0 p u) (hk : k ≤ 16384) (hp : Pl w0.heap.size sv T W k) (hbw : Below w0.heap.size w0 W) :
    Calls Try.prog 16 #[.pointer (some ⟨w0.heap.size, 0, none⟩), .agg u.toArray] W (PrPost w0.heap.size sv T W (preP sg p) (okSN sg (stOf p.kind) (setOf p.kind) (d + 1) 1 p.body) (cntSN (d + 1) p.body) k) := by
  obtain ⟨v7, v8, rfl, hnm, h7, h8⟩ := hr
  have hl := h7.len
  obtain ⟨ka, kc, e7⟩ := h7.slice
  obtain ⟨kb, kc2, e8⟩ := h8.slice
  subst e7 e8
  have HSG := hide (fun (V : World) (hV : Below W.heap.size W V) => iSignal sg w0.heap.size sv p.clock V hsl (hp.later hV).c0 (hsg.later RSignal.keeps (Fx.below hbw (Fx.of (g := w0.heap.size) hV) (Nat.le_refl _) hbw.size)))
  have HST : ∀ q : Int, Hid (∀ V, Pl w0.heap.size sv T V k → Below w0.heap.size w0 V → Calls Try.prog 29 #[.pointer (some ⟨w0.heap.size, 0, none⟩), .agg #[.int .i64 p.body.kind, .int .i64 p.body.n, .int .i64 p.body.low, .int .i64 p.body.wide, .slice ka p.body.exs.length kc, .slice kb p.body.kids.length kc2], .int .u64 (stOf q : Nat), .int .u64 (setOf q : Nat), .int .i64 1] V fun e W' => ∃ (r : Bool) (k' : Int), e = .returned (.bool r) ∧ r = (okSN sg (stOf q) (setOf q) (d + 1) 1 p.body && decide (cntSN (d + 1) p.body ≤ k)) ∧ (r = true → k' = (k : Int) - (cntSN (d + 1) p.body : Nat)) ∧ Pl w0.heap.size sv T W' k' ∧ Fx w0.heap.size V W') := fun q => hide (fun V hV hB => iStAll sg (stOf q) (setOf q) (stOf_lt q) (setOf_lt q) w0 sv T hsg hsl (d + 1) p.body _ 1 k V ⟨_, _, rfl, h7, h8⟩ (by omega) (by omega) hk hV hB)
  have hL : p.body.exs.length ≤ 9223372036854775807 := by unfold maxLen at hl; omega
  obtain ⟨kind, clock, nm, body⟩ := p
  dsimp only at HSG HST hL hnm ⊢
  have HF : (bodyB kind body.kind body.exs.length && (clockB sg kind clock && nmB kind nm)) = preP sg ⟨kind, clock, nm, body⟩ := rfl
  have HS := HST kind
  clear HST h7 h8 hl
  generalize preP sg ⟨kind, clock, nm, body⟩ = PB at *
  by_cases k1 : kind = 1
  · subst k1; exact iProc1 sg w0 sv T (d + 1) body nm clock _ _ _ _ ka kb _ _ kc kc2 k W PB hnm hL hp hbw HSG HS HF
  by_cases k2 : kind = 2
  · subst k2; exact iProc2 sg w0 sv T (d + 1) body nm clock _ _ _ _ ka kb _ _ kc kc2 k W PB hnm hL hp hbw HSG HS HF
  by_cases k3 : kind = 3
  · subst k3; exact iProc3 sg w0 sv T (d + 1) body nm clock _ _ _ _ ka kb _ _ kc kc2 k W PB hnm hL hp hbw HSG HS HF
  by_cases k4 : kind = 4
  · subst k4; exact iProc4 sg w0 sv T (d + 1) body nm clock _ _ _ _ ka kb _ _ kc kc2 k W PB hnm hL hp hbw HSG HS HF
  by_cases k5 : kind = 5
  · subst k5; exact iProc5 sg w0 sv T (d + 1) body nm clock _ _ _ _ ka kb _ _ kc kc2 k W PB hnm hL hp hbw HSG HS HF
  exact iProcX sg w0 sv T (d + 1) body nm clock _ _ _ _ ka kb _ _ kc kc2 k W PB kind k1 k2 k3 k4 k5 hnm hL hp hbw HSG HS HF
end Go.Proofs.Ytgkfhaahcedbpaa
namespace Go.Proofs.Ytgkfhaahcedbpaa
open Go.RowKit Gs Go.Maps Go.WideMaps
set_option linter.unusedVariables false
set_option maxRecDepth 100000
def keyL (s : ByteArray) : Lit := .string s.data.toList
theorem keyL_inj {a b : ByteArray} (h : keyL a = keyL b) : a = b := by
  unfold keyL at h
  injection h with h
  exact L_inj h
theorem keyL_key (s : ByteArray) : WideAt.IsKeyLit (keyL s) := by simp [keyL, WideAt.IsKeyLit]
/-- The map behind the first k names. -/
def Pm (ss : List ByteArray) : Nat → DataW Unit
  | 0 => .map []
  | k + 1 => (Pm ss k).put (keyL (ss.getD k ByteArray.empty)) (.lit (.int .i64 k))
theorem Pm_tidy (ss : List ByteArray) : ∀ k, Tidy (Pm ss k)
  | 0 => tidy_empty
  | k + 1 => (Pm_tidy ss k).put (keyL_key _) _
theorem Pm_has (ss : List ByteArray) (s : ByteArray) : ∀ k, k ≤ ss.length → (Maps.has (Pm ss k) (keyL s) = true ↔ s ∈ ss.take k)
  | 0, _ => by simp [Pm, Maps.has_eq]
  | k + 1, h => by
    have hk : ss[k]? = some ss[k] := List.getElem?_eq_getElem (by omega)
    have hg : ss.getD k ByteArray.empty = ss[k] := by simp [List.getD, hk]
    rw [List.take_add_one, hk, Pm, hg]
    by_cases e : s = ss[k]
    · subst e
      simp only [has_put_same (Pm_tidy ss k).isMap (keyL_key _), Option.toList_some, List.mem_append, List.mem_singleton, or_true]
    · rw [has_put_other (fun h => e (keyL_inj h)), Pm_has ss s k (by omega)]
      simp only [Option.toList_some, List.mem_append, List.mem_singleton, e, or_false]
theorem Pm_size (ss : List ByteArray) : ∀ k, k ≤ ss.length → Maps.size (Pm ss k) ≤ k ∧ (Maps.size (Pm ss k) = k ↔ (ss.take k).Nodup)
  | 0, _ => by simp [Pm, Maps.size_eq]
  | k + 1, h => by
    have hk : ss[k]? = some ss[k] := List.getElem?_eq_getElem (by omega)
    have hg : ss.getD k ByteArray.empty = ss[k] := by simp [List.getD, hk]
    obtain ⟨ih1, ih2⟩ := Pm_size ss k (by omega)
    have hh := Pm_has ss ss[k] k (by omega)
    rw [List.take_add_one, hk, Pm, hg, size_put (Pm_tidy ss k)]
    simp only [Option.toList_some, List.nodup_append, List.nodup_cons, List.not_mem_nil, not_false_eq_true, List.nodup_nil, and_true, true_and, List.mem_singleton]
    by_cases e : Maps.has (Pm ss k) (keyL ss[k]) = true
    · rw [if_pos e]
      refine ⟨by omega, ⟨fun q => by omega, fun q => ?_⟩⟩
      exact absurd rfl (q.2 _ (hh.1 e) _ rfl)
    · rw [if_neg e]
      refine ⟨by omega, ⟨fun q => ⟨ih2.1 (by omega), fun a ha b hb hab => ?_⟩, fun q => by have := ih2.2 q.1; omega⟩⟩
      subst hb hab
      exact e (hh.2 ha)
theorem beq_nat (a b : Nat) : (((a : Nat) : Int) == ((b : Nat) : Int)) = decide (a = b) := by
  rw [show (((a : Nat) : Int) == ((b : Nat) : Int)) = decide ((a : Int) = (b : Int)) from rfl]
  exact decide_eq_decide.2 (by omega)
theorem law9 : Keyed Try.prog 9 := string_keyed Try.underlying9
set_option maxHeartbeats 1600000 in
theorem iAllNew (ss : List ByteArray) (v : Value) (w : World) (hl : ss.length ≤ 2097152) (hr : RS 1 RStr w 0 ss v) :
    Calls Try.prog 17 #[v] w fun e w' => e = .returned (.bool (decide ss.Nodup)) ∧ Below w.heap.size w w' := by
  have hmm := @run_makeMap Try.prog
  rcases hr.open with ⟨rfl, a, c, rfl⟩ | ⟨b, o, c, rfl, hc, hn, _, hcs⟩
  · clear hr
    go_enter Try.func17, Try.ntmps17
    go_wp2
    refine wp_loop_rounds 1 ?_
    rw [rounds_succ]
    go_wp2_with (first
      | (at_len; refine wpList_len_own _ rfl _ 82 rfl 9 3 Try.underlying82 (plainElem (H := Unit) Try.prog 3) w.heap.size 0 (.map []) rfl (World.ownsMap_made _ _ _ _) ?_)
      | go_in)
    go_ret
    exact ⟨by simp [Maps.size_eq], (Below.refl _ _).alloc (Nat.le_refl _) _⟩
  · unfold maxLen at hn
    have HC := hide hcs
    clear hcs hr
    go_enter Try.func17, Try.ntmps17
    go_wp2
    go_loopw [9] (fun i wr => ∃ k : Nat, k ≤ ss.length ∧ i = .int .i64 k ∧ wr.ownsMap Try.prog 9 (plainElem Try.prog 3) w.heap.size k (Pm ss k) ∧ Below w.heap.size w wr) (fun i _ => ss.length - (intOf i).toNat)
    case atStart => exact ⟨0, Nat.zero_le _, rfl, World.ownsMap_made _ _ _ _, (Below.refl _ _).alloc (Nat.le_refl _) _⟩
    case round =>
      obtain ⟨k, hk, rfl, hown, hnx⟩ := hrel
      by_cases hlt : k < ss.length
      · obtain ⟨s, hs⟩ : ∃ s, ss[k]? = some s := ⟨_, List.getElem?_eq_getElem (by omega)⟩
        obtain ⟨u, hul, hat, hus, hsz⟩ := unhide HC k s hs
        subst hus
        have hcx := cell_later hnx (hat.get (j := 0) rfl)
        simp only [Nat.add_zero, Nat.mul_one] at hcx
        have hgd : ss.getD k ByteArray.empty = s := by simp [List.getD, hs]
        have hkey : keyOf Try.prog 9 (.string s) = some (keyL s) := keyOf_string_mk Try.underlying9 hsz
        have HST : Hid (Pm ss (k + 1) = (Pm ss k).put (keyL s) (.lit (.int .i64 k))) := hide (by rw [Pm, hgd])
        clear hgd hat hul HC
        go_wp2_with (first
          | (at_mapUpdate; refine wpList_mapUpdate_own _ rfl _ _ _ 82 rfl 9 3 law9 Try.underlying82 _ w.heap.size k _ rfl hown (by unfold maxLen; omega) _ _ _ rfl rfl hkey _ [] (plainElem_int Try.underlying3 (WalkArith.wf_i64 (by omega))) ?_; intro w1 hown1 hgrow1)
          | go_in)
        go_roundw
        case rel => exact ⟨k + 1, by omega, by go_num, by rw [unhide HST]; exact hown1, hnx.grown hgrow1 hnx.size (fun j hj => by cases hj; exact Nat.le_refl _)⟩
        case measure => simp [intOf]; omega
      · obtain hkl : k = ss.length := by omega
        subst hkl
        have hsz := Pm_size ss ss.length (Nat.le_refl _)
        rw [List.take_of_length_le (Nat.le_refl _)] at hsz
        have HSZ := hide hsz
        clear hsz HC
        go_wp2_with (first
          | (at_len; refine wpList_len_own _ rfl _ 82 rfl 9 3 Try.underlying82 _ w.heap.size ss.length _ rfl hown ?_)
          | go_in)
        go_ret
        refine ⟨?_, hnx⟩
        refine ret_bool ?_
        rw [beq_nat]
        exact decide_eq_decide.2 (unhide HSZ).2
end Go.Proofs.Ytgkfhaahcedbpaa
namespace Go.Proofs.Ytgkfhaahcedbpaa
open Go.RowKit Gs
set_option linter.unusedVariables false
set_option maxRecDepth 100000
/-- Strings in a row of one's own. -/
def OS (B : Nat) (W : World) (v : Value) (xs : List ByteArray) : Prop := W.ownsRow B 9 1 v xs.length (xs.map Value.string) ∧ ∀ s ∈ xs, s.size ≤ maxLen
theorem OS_nil (B : Nat) (W : World) : OS B W (.slice none 0 0) [] := ⟨World.ownsRow_nil _ _ _ _, fun _ h => by cases h⟩
theorem OS.later {B : Nat} {v : Value} {xs : List ByteArray} {W W' : World} (h : OS B W v xs) (hb : Below W.heap.size W W') : OS B W' v xs := by
  obtain ⟨⟨h1, h2 | ⟨g, cap, cur, hv, hg, hc, rest⟩⟩, h3⟩ := h
  · exact ⟨⟨h1, .inl h2⟩, h3⟩
  · exact ⟨⟨h1, .inr ⟨g, cap, cur, hv, hg, (hb.block g (Array.getElem?_eq_some_iff.1 hc).1).trans hc, rest⟩⟩, h3⟩
theorem OS.read {B : Nat} {v : Value} {xs : List ByteArray} {W : World} (h : OS B W v xs) (hl : xs.length ≤ maxLen) : RS 1 RStr W B xs v := by
  obtain ⟨hr, h3⟩ := h
  have hc := fun g hg => World.ownsRow.cells hr (g := g) hg
  rcases hr.2 with ⟨rfl, hn⟩ | ⟨g, cap, cur, rfl, hb, hg, hlc, hm, _⟩
  · have : xs = [] := List.length_eq_zero_iff.1 hn
    subst this
    exact RS.nil _ _ _ _ _ _
  · refine ⟨_, _, rfl, hlc, hl, fun _ => ⟨g, 0, rfl, hb, fun i x hx => ?_⟩⟩
    refine ⟨[.string x], rfl, fun j y hj => ?_, rfl, h3 x (List.mem_of_getElem? hx)⟩
    have hj0 : j = 0 := by
      cases j with
      | zero => rfl
      | succ j => simp at hj
    subst hj0
    simp at hj
    subst hj
    have := hc g rfl i (.string x) (by rw [List.getElem?_map, hx]; rfl)
    rw [Addr.add_lit] at this
    simpa using this
theorem OS.step {B : Nat} {v : Value} {xs : List ByteArray} {W : World} {s : ByteArray} (h : W.ownsRow B 9 1 v (xs.length + 1) (xs.map Value.string ++ [.string s])) (h3 : ∀ s ∈ xs, s.size ≤ maxLen) (hs : s.size ≤ maxLen) : OS B W v (xs ++ [s]) := by
  refine ⟨?_, fun t ht => ?_⟩
  · rw [List.length_append, List.map_append]; exact h
  · rcases List.mem_append.1 ht with h | h
    · exact h3 t h
    · simp at h; subst h; exact hs
theorem info9 : (Try.prog.info? 9).map (fun i => (i.zero, i.size, i.bytes)) = some (some (.string ByteArray.empty), 1, 16) := by kernel_rfl
theorem newS (W : World) (s : ByteArray) (g : Nat) (hg : g = W.heap.size) : ∀ j u, [Value.string s][j]? = some u → (W.alloc (.cells #[.string s] 9)).cell? ((⟨g, 0, none⟩ : Addr).add j) = some u := by
  intro j u h
  subst hg
  match j, h with
  | 0, h => simp at h; subst h; simp [Addr.add]
  | j + 1, h => simp at h
theorem oneS (s : ByteArray) : ∀ u ∈ [Value.string s], u.oneCell' = true := by
  intro u hu; simp at hu; subst hu; rfl
theorem below_grown {B : Nat} {w W V : World} {row : Option Nat} (h : Below B w W) (hg : W.grownBy V row) (hB : B ≤ W.heap.size) (hr : ∀ j, row = some j → B ≤ j) : Below B w V := h.grown hg hB hr
theorem own_row {B : Nat} {v : Value} {n : Nat} {xs : List Value} {W : World} (h : W.ownsRow B 9 1 v n xs) : ∀ j, v.ownBlock = some j → B ≤ j := fun j hj => (h.lt j hj).1
end Go.Proofs.Ytgkfhaahcedbpaa
