/- The law's markIntS and heldIntS. -/
import Derived.Test.YtkmpjoiefcjbnaaDoorRTA
import Derived.Test.YtkmpjoiefcjbnaaDoorSF
namespace Go.Proofs.YtkmpjoiefcjbnaaDoor
open Go.RowKit Gs
set_option linter.unusedVariables false
set_option linter.unusedSimpArgs false
set_option maxRecDepth 100000
/-- The marks from k on. -/
def mks (k : Int) (l : Nat) : List Int := (List.range l).map fun (i : Nat) => k + (i : Int)
theorem mks_succ (k : Int) (l : Nat) : mks k (l + 1) = mks k l ++ [k + (l : Int)] := by
  unfold mks
  rw [List.range_succ, List.map_append]; rfl
theorem mks_len (k : Int) (l : Nat) : (mks k l).length = l := by simp [mks]
theorem mks_get (k : Int) (l i : Nat) (h : i < l) : (mks k l)[i]? = some (k + (i : Int)) := by
  unfold mks
  rw [List.getElem?_map, List.getElem?_range h]; rfl
theorem setK_snoc : ∀ (xs : List Value) (W : World) (b o : Nat) (x : Value), setK W b o (xs ++ [x]) = (setK W b o xs).setCell ⟨b, o + xs.length, none⟩ x
  | [], W, b, o, x => rfl
  | y :: ys, W, b, o, x => by
    show setK (W.setCell ⟨b, o, none⟩ y) b (o + 1) (ys ++ [x]) = (setK (W.setCell ⟨b, o, none⟩ y) b (o + 1) ys).setCell ⟨b, o + (ys.length + 1), none⟩ x
    rw [setK_snoc ys, show o + 1 + ys.length = o + (ys.length + 1) by omega]
def mkV (k : Int) (l : Nat) : List Value := (mks k l).map fun x => Value.int .i64 x
theorem mkV_len (k : Int) (l : Nat) : (mkV k l).length = l := by unfold mkV; rw [List.length_map, mks_len]
theorem mkV_succ (k : Int) (l : Nat) : mkV k (l + 1) = mkV k l ++ [.int .i64 (k + (l : Int))] := by
  unfold mkV; rw [mks_succ, List.map_append]; rfl
set_option maxHeartbeats 4000000 in
theorem heldI (l : Nat) (v : Value) (w : World) (k : Int) (hl : l ≤ 4194304) (hk0 : 0 ≤ k) (hk1 : k ≤ 4611686018427387904) (h : RS 1 RInt w 0 (mks k l) v) :
    Calls Tryd.prog 12 #[v, .int .i64 k] w fun e w' => e = .returned (.int .i64 (k + (l : Int))) ∧ w' = w := by
  obtain ⟨a, c, ev⟩ := h.slice
  rw [mks_len] at ev
  have H := hide h
  subst ev
  clear h
  go_enter Tryd.func12, Tryd.ntmps12
  go_wp2
  go_loopw [1, 5] (fun kv i wr => ∃ j : Nat, j ≤ l ∧ i = .int .i64 j ∧ kv = .int .i64 (k + (j : Int)) ∧ wr = w) (fun _ i _ => l - (intOf i).toNat)
  case atStart => exact ⟨0, Nat.zero_le _, rfl, by simp, rfl⟩
  case round =>
    obtain ⟨j, hj, rfl, rfl, rfl⟩ := hrel
    by_cases hlt : j < l
    · have hx := mks_get k l j hlt
      rcases (unhide H).open with ⟨hnil, _⟩ | ⟨b, o, cc, ee, _, _, _, hcs⟩
      · have := mks_len k l
        rw [hnil] at this; simp at this; omega
      obtain ⟨rfl, rfl⟩ : a = some ⟨b, o, none⟩ ∧ c = cc := by
        injection ee with e1 e2 e3
        exact ⟨e1, e3⟩
      obtain ⟨u, _, hat, hux⟩ := hcs j _ hx
      obtain rfl : u = [.int .i64 (k + (j : Int))] := hux
      have m0 := hat.get (j := 0) rfl
      simp only [Nat.add_zero, Nat.mul_one] at m0
      have i1 : (j : Int) < (l : Int) := by omega
      clear hat hcs hx ee H
      go_wp2
      exact ⟨⟨j + 1, by omega, by go_num, by go_num, trivial⟩, by simp [intOf]; omega⟩
    · obtain rfl : j = l := by omega
      clear H
      go_wp2
      go_ret
      exact ⟨rfl, rfl⟩
/-- Ints that may be written. -/
def WI (W : World) (v : Value) (l : Nat) : Prop := ∃ a c, v = .slice a l c ∧ l ≤ c ∧ (l ≠ 0 → ∃ b o, a = some ⟨b, o, none⟩ ∧ ∀ i, i < l → (∃ x, W.cell? ⟨b, o + i, none⟩ = some x) ∧ W.frozen? ⟨b, o + i, none⟩ = false)
/-- A slice's ints set to marks. -/
def markW (W : World) (v : Value) (k : Int) (l : Nat) : World := match v with
  | .slice (some a) _ _ => setK W a.block a.off (mkV k l)
  | _ => W
set_option maxHeartbeats 4000000 in
theorem markI (l : Nat) (v : Value) (w : World) (k : Int) (hl : l ≤ 4194304) (hk0 : 0 ≤ k) (hk1 : k ≤ 4611686018427387904) (h : WI w v l) :
    Calls Tryd.prog 11 #[v, .int .i64 k] w fun e w' => e = .returned (.int .i64 (k + (l : Int))) ∧ (w' = w ∧ l = 0 ∨ ∃ b o c, v = .slice (some ⟨b, o, none⟩) l c ∧ w' = setK w b o (mkV k l)) := by
  obtain ⟨a, c, rfl, hlc, hw⟩ := h
  by_cases h0 : l = 0
  · subst h0
    clear hw
    go_enter Tryd.func11, Tryd.ntmps11
    go_wp2
    refine wp_loop_rounds 1 ?_
    rw [rounds_succ]
    go_wp2
    go_ret
    exact ⟨by simp, by simp⟩
  · obtain ⟨b, o, rfl, hc⟩ := hw h0
    have HC := hide hc
    clear hw hc
    go_enter Tryd.func11, Tryd.ntmps11
    go_wp2
    go_loopw [1, 5] (fun kv i wr => ∃ j : Nat, j ≤ l ∧ i = .int .i64 j ∧ kv = .int .i64 (k + (j : Int)) ∧ wr = setK w b o (mkV k j)) (fun _ i _ => l - (intOf i).toNat)
    case atStart => exact ⟨0, Nat.zero_le _, rfl, by simp, rfl⟩
    case round =>
      obtain ⟨j, hj, rfl, rfl, rfl⟩ := hrel
      by_cases hlt : j < l
      · obtain ⟨⟨x, hx⟩, hf⟩ := unhide HC j hlt
        obtain ⟨x', hx'⟩ := setK_some (mkV k j) w b o b (o + j) ⟨x, hx⟩
        have hf' : (setK w b o (mkV k j)).frozen? ⟨b, o + j, none⟩ = false := by rw [setK_frozen]; exact hf
        have HE := hide (show setK w b o (mkV k (j + 1)) = (setK w b o (mkV k j)).setCell ⟨b, o + j, none⟩ (.int .i64 (k + (j : Int))) from by rw [mkV_succ, setK_snoc, mkV_len])
        have i1 : (j : Int) < (l : Int) := by omega
        clear hx hf HC
        generalize setK w b o (mkV k j) = W1 at *
        go_wp2
        exact ⟨⟨j + 1, by omega, by go_num, by go_num, by rw [unhide HE]⟩, by simp [intOf]; omega⟩
      · obtain rfl : j = l := by omega
        clear HC
        go_wp2
        go_ret
        exact ⟨rfl, .inr ⟨b, o, c, rfl, rfl⟩⟩
end Go.Proofs.YtkmpjoiefcjbnaaDoor
namespace Go.Proofs.YtkmpjoiefcjbnaaDoor
open Go.RowKit Gs
set_option linter.unusedVariables false
set_option linter.unusedSimpArgs false
set_option maxRecDepth 100000
set_option maxHeartbeats 8000000 in
theorem markT (k : Nat) (w : World) (hk : k < 10 ^ 18) :
    Calls Tryd.prog 59 #[.int .i64 (k : Int)] w fun e w' => (∃ s : ByteArray, e = .returned (.string s) ∧ s.size ≤ 64) ∧ Below w.heap.size w w' := by
  by_cases h0 : k = 0
  · subst h0
    go_enter Tryd.func59, Tryd.ntmps59
    go_wp2
    exact bodyPost_ret (v := .string ⟨#[109, 48]⟩) (by simp [results, Tryd.results59, go_sem]) rfl ⟨⟨_, rfl, by decide⟩, brf w⟩
  · have d0 : decide ((k : Int) ≤ 0) = false := decide_eq_false (by omega)
    go_enter Tryd.func59, Tryd.ntmps59
    go_wp2
    go_loopw [0, 3] (fun kv o wr => ∃ (m : Nat) (s : ByteArray) (j : Nat), kv = .int .i64 (m : Int) ∧ o = .string s ∧ s.size ≤ j ∧ j ≤ 18 ∧ m < 10 ^ (18 - j) ∧ Below w.heap.size w wr) (fun kv _ _ => (intOf kv).toNat)
    case atStart => exact ⟨k, ByteArray.empty, 0, rfl, rfl, by decide, by omega, by simpa using hk, brf _⟩
    case round =>
      obtain ⟨m, s, j, rfl, rfl, hs, hj, hm, hb⟩ := hrel
      by_cases hp : m = 0
      · subst hp
        have HB := hide hb
        clear hb
        have hsz : s.size ≤ 18 := by omega
        go_wp2
        refine bodyPost_ret (v := .string (⟨#[109]⟩ ++ s)) (by simp [results, Tryd.results59, go_sem]) rfl ⟨⟨_, rfl, ?_⟩, unhide HB⟩
        rw [ByteArray.size_append]
        have : (⟨#[109]⟩ : ByteArray).size = 1 := rfl
        omega
      · have hm0 : 0 < m := by omega
        have dm : (0 : Int) < (m : Int) := by omega
        have hmb : m < 10 ^ 18 := Nat.lt_of_lt_of_le hm (Nat.pow_le_pow_right (by omega) (by omega))
        have hj18 : j < 18 := by
          rcases Nat.lt_or_ge j 18 with h | h
          · exact h
          · have e : 18 - j = 0 := by omega
            rw [e] at hm; omega
        have hdg : 48 + m % 10 < 256 := by omega
        have hcv := one_string (48 + (m : Int) % 10) (UInt8.ofNat (48 + m % 10)) (by rw [UInt8.toNat_ofNat']; omega)
        have hlt : m / 10 < 10 ^ (18 - (j + 1)) := by
          have e : 18 - j = (18 - (j + 1)) + 1 := by omega
          rw [e, Nat.pow_succ] at hm
          omega
        have HB := hide hb
        have HL := hide hlt
        have HM := hide hm
        have hsz : s.size ≤ 18 := by omega
        clear hb hlt hm
        generalize hd : S [UInt8.ofNat (48 + m % 10)] = D at hcv
        have hD : D.size = 1 := by rw [← hd, S_size]; rfl
        clear hd
        go_wp2
        refine ⟨⟨m / 10, D ++ s, j + 1, by first | rfl | go_num, rfl, ?_, by omega, unhide HL, bal (unhide HB) _⟩, ?_⟩
        · rw [ByteArray.size_append]; omega
        · simp [intOf]; omega
end Go.Proofs.YtkmpjoiefcjbnaaDoor
