/- allNew: a map of places tells whether no two names are alike. -/
import Derived.Test.YtdmmbhemmbgcpadGS
import Derived.Test.YtdmmbhemmbgcpadBase
import Derived.Maps.OwnSet
namespace Go.Proofs.Ytdmmbhemmbgcpad
open Go.RowKit Gs Go.Maps Go.WideMaps
set_option linter.unusedVariables false
set_option maxRecDepth 100000
def keyL (s : ByteArray) : Lit := .string s.data.toList
theorem keyL_inj {a b : ByteArray} (h : keyL a = keyL b) : a = b := by
  unfold keyL at h
  injection h with h
  exact L_inj h
theorem keyL_key (s : ByteArray) : WideAt.IsKeyLit (keyL s) := by simp [keyL, WideAt.IsKeyLit]
/-- The map behind the first k names. -/
def Pm (ss : List ByteArray) : Nat → DataW Unit
  | 0 => .map []
  | k + 1 => (Pm ss k).put (keyL (ss.getD k ByteArray.empty)) (.lit (.int .i64 k))
theorem Pm_tidy (ss : List ByteArray) : ∀ k, Tidy (Pm ss k)
  | 0 => tidy_empty
  | k + 1 => (Pm_tidy ss k).put (keyL_key _) _
theorem Pm_has (ss : List ByteArray) (s : ByteArray) : ∀ k, k ≤ ss.length → (Maps.has (Pm ss k) (keyL s) = true ↔ s ∈ ss.take k)
  | 0, _ => by simp [Pm, Maps.has_eq]
  | k + 1, h => by
    have hk : ss[k]? = some ss[k] := List.getElem?_eq_getElem (by omega)
    have hg : ss.getD k ByteArray.empty = ss[k] := by simp [List.getD, hk]
    rw [List.take_add_one, hk, Pm, hg]
    by_cases e : s = ss[k]
    · subst e
      simp only [has_put_same (Pm_tidy ss k).isMap (keyL_key _), Option.toList_some, List.mem_append, List.mem_singleton, or_true]
    · rw [has_put_other (fun h => e (keyL_inj h)), Pm_has ss s k (by omega)]
      simp only [Option.toList_some, List.mem_append, List.mem_singleton, e, or_false]
theorem Pm_size (ss : List ByteArray) : ∀ k, k ≤ ss.length → Maps.size (Pm ss k) ≤ k ∧ (Maps.size (Pm ss k) = k ↔ (ss.take k).Nodup)
  | 0, _ => by simp [Pm, Maps.size_eq]
  | k + 1, h => by
    have hk : ss[k]? = some ss[k] := List.getElem?_eq_getElem (by omega)
    have hg : ss.getD k ByteArray.empty = ss[k] := by simp [List.getD, hk]
    obtain ⟨ih1, ih2⟩ := Pm_size ss k (by omega)
    have hh := Pm_has ss ss[k] k (by omega)
    rw [List.take_add_one, hk, Pm, hg, size_put (Pm_tidy ss k)]
    simp only [Option.toList_some, List.nodup_append, List.nodup_cons, List.not_mem_nil, not_false_eq_true, List.nodup_nil, and_true, true_and, List.mem_singleton]
    by_cases e : Maps.has (Pm ss k) (keyL ss[k]) = true
    · rw [if_pos e]
      refine ⟨by omega, ⟨fun q => by omega, fun q => ?_⟩⟩
      exact absurd rfl (q.2 _ (hh.1 e) _ rfl)
    · rw [if_neg e]
      refine ⟨by omega, ⟨fun q => ⟨ih2.1 (by omega), fun a ha b hb hab => ?_⟩, fun q => by have := ih2.2 q.1; omega⟩⟩
      subst hb hab
      exact e (hh.2 ha)
theorem beq_nat (a b : Nat) : (((a : Nat) : Int) == ((b : Nat) : Int)) = decide (a = b) := by
  rw [show (((a : Nat) : Int) == ((b : Nat) : Int)) = decide ((a : Int) = (b : Int)) from rfl]
  exact decide_eq_decide.2 (by omega)
theorem law9 : Keyed Try.prog 9 := string_keyed Try.underlying9
set_option maxHeartbeats 1600000 in
theorem iAllNew (ss : List ByteArray) (v : Value) (w : World) (hl : ss.length ≤ 2097152) (hr : RS 1 RStr w 0 ss v) :
    Calls Try.prog 63 #[v] w fun e w' => e = .returned (.bool (decide ss.Nodup)) ∧ Below w.heap.size w w' := by
  have hmm := @run_makeMap Try.prog
  rcases hr.open with ⟨rfl, a, c, rfl⟩ | ⟨b, o, c, rfl, hc, hn, _, hcs⟩
  · clear hr
    go_enter Try.func63, Try.ntmps63
    go_wp2
    refine wp_loop_rounds 1 ?_
    rw [rounds_succ]
    go_wp2_with (first
      | (at_len; refine wpList_len_own _ rfl _ 96 rfl 9 3 Try.underlying96 (plainElem (H := Unit) Try.prog 3) w.heap.size 0 (.map []) rfl (World.ownsMap_made _ _ _ _) ?_)
      | go_in)
    go_ret
    exact ⟨by simp [Maps.size_eq], (Below.refl _ _).alloc (Nat.le_refl _) _⟩
  · unfold maxLen at hn
    have HC := hide hcs
    clear hcs hr
    go_enter Try.func63, Try.ntmps63
    go_wp2
    go_loopw [9] (fun i wr => ∃ k : Nat, k ≤ ss.length ∧ i = .int .i64 k ∧ wr.ownsMap Try.prog 9 (plainElem Try.prog 3) w.heap.size k (Pm ss k) ∧ Below w.heap.size w wr) (fun i _ => ss.length - (intOf i).toNat)
    case atStart => exact ⟨0, Nat.zero_le _, rfl, World.ownsMap_made _ _ _ _, (Below.refl _ _).alloc (Nat.le_refl _) _⟩
    case round =>
      obtain ⟨k, hk, rfl, hown, hnx⟩ := hrel
      by_cases hlt : k < ss.length
      · obtain ⟨s, hs⟩ : ∃ s, ss[k]? = some s := ⟨_, List.getElem?_eq_getElem (by omega)⟩
        obtain ⟨u, hul, hat, hus, hsz⟩ := unhide HC k s hs
        subst hus
        have hcx := cell_later hnx (hat.get (j := 0) rfl)
        simp only [Nat.add_zero, Nat.mul_one] at hcx
        have hgd : ss.getD k ByteArray.empty = s := by simp [List.getD, hs]
        have hkey : keyOf Try.prog 9 (.string s) = some (keyL s) := keyOf_string_mk Try.underlying9 hsz
        have HST : Hid (Pm ss (k + 1) = (Pm ss k).put (keyL s) (.lit (.int .i64 k))) := hide (by rw [Pm, hgd])
        clear hgd hat hul HC
        go_wp2_with (first
          | (at_mapUpdate; refine wpList_mapUpdate_own _ rfl _ _ _ 96 rfl 9 3 law9 Try.underlying96 _ w.heap.size k _ rfl hown (by unfold maxLen; omega) _ _ _ rfl rfl hkey _ [] (plainElem_int Try.underlying3 (WalkArith.wf_i64 (by omega))) ?_; intro w1 hown1 hgrow1)
          | go_in)
        go_roundw
        case rel => exact ⟨k + 1, by omega, by go_num, by rw [unhide HST]; exact hown1, hnx.grown hgrow1 hnx.size (fun j hj => by cases hj; exact Nat.le_refl _)⟩
        case measure => simp [intOf]; omega
      · obtain hkl : k = ss.length := by omega
        subst hkl
        have hsz := Pm_size ss ss.length (Nat.le_refl _)
        rw [List.take_of_length_le (Nat.le_refl _)] at hsz
        have HSZ := hide hsz
        clear hsz HC
        go_wp2_with (first
          | (at_len; refine wpList_len_own _ rfl _ 96 rfl 9 3 Try.underlying96 _ w.heap.size ss.length _ rfl hown ?_)
          | go_in)
        go_ret
        refine ⟨?_, hnx⟩
        refine ret_bool ?_
        rw [beq_nat]
        exact decide_eq_decide.2 (unhide HSZ).2
end Go.Proofs.Ytdmmbhemmbgcpad
