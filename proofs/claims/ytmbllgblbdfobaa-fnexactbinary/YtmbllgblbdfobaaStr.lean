/- Slices of strings: what szStringS, toStringS and eqStringS answer. -/
import Derived.Test.YtmbllgblbdfobaaOwn
import Derived.Deep.OwnRows
import Derived.Deep.QuietTactic
import Derived.BigQuiet
namespace Go.Proofs.Ytmbllgblbdfobaa
open Go.RowKit
/-- The slice of n strings at a holds the strings ss. -/
def SL (a : Option Addr) (n : Nat) (ss : List ByteArray) (W : World) : Prop :=
  ss.length = n ∧ (n = 0 ∨ ∃ b off, a = some ⟨b, off, none⟩ ∧ ∀ i, (h : i < ss.length) → W.cell? ⟨b, off + i, none⟩ = some (.string ss[i]))
theorem SL_later {a : Option Addr} {n : Nat} {ss : List ByteArray} {W w1 : World} (hb : Below W.heap.size W w1) (h : SL a n ss W) : SL a n ss w1 := by
  obtain ⟨h1, h2⟩ := h
  refine ⟨h1, ?_⟩
  rcases h2 with h | ⟨b, off, rfl, hc⟩
  · exact .inl h
  · exact .inr ⟨b, off, rfl, fun i hi => cell_later hb (hc i hi)⟩
theorem str_info9 : (Try.prog.info? 9).map (fun i => (i.zero, i.size, i.bytes)) = some (some (.string ByteArray.empty), 1, 16) := by kernel_rfl
/-- What szStringS leaves of the room, or less than nothing. -/
def szL : Int → List ByteArray → Int
  | l, [] => l
  | l, s :: t => if l - s.size < 0 then -1 else szL (l - s.size) t
theorem szL_ok (l : Int) (ss : List ByteArray) (h : 0 ≤ szL l ss) (s : ByteArray) (hs : s ∈ ss) : (s.size : Int) ≤ l := by
  induction ss generalizing l with
  | nil => cases hs
  | cons x t ih =>
    unfold szL at h
    by_cases hl : l - x.size < 0
    · rw [if_pos hl] at h; omega
    · rw [if_neg hl] at h
      rcases List.mem_cons.1 hs with rfl | hs
      · omega
      · have := ih _ h hs; omega
set_option maxHeartbeats 400000 in
theorem szS (a : Option Addr) (n cap : Nat) (ss : List ByteArray) (w : World) (hS : SL a n ss w) (hn : n ≤ maxLen) (hz : ∀ s ∈ ss, s.size ≤ maxLen) :
    Calls Try.prog 40 #[.slice a n cap, .int .i64 1048576] w fun e w' => (∃ r : Int, e = .returned (.int .i64 r) ∧ (0 ≤ r → n ≤ 1048576 ∧ ∀ s ∈ ss, s.size ≤ 1048576)) ∧ w = w' := by
  unfold maxLen at hn hz
  by_cases hbig : 1048576 - (n : Int) < 0
  · go_enter Try.func40, Try.ntmps40
    go_wp2
    go_ret
    exact ⟨⟨_, rfl, fun h => by omega⟩, rfl⟩
  · obtain ⟨hlen, hS⟩ := hS
    have HL := hide hlen
    clear hlen
    rcases hS with rfl | ⟨b, off, rfl, hc⟩
    · have hss : ∀ s ∈ ss, s.size ≤ 1048576 := by rw [List.eq_nil_of_length_eq_zero (unhide HL)]; simp
      have HSS := hide hss
      clear hss
      go_enter Try.func40, Try.ntmps40
      go_wp2
      go_loop [1, 5] (fun l i => i = .int .i64 0 ∧ ∃ r : Int, l = .int .i64 r) (fun _ _ => 0)
      case atStart => exact ⟨rfl, _, rfl⟩
      case round =>
        obtain ⟨rfl, r, rfl⟩ := hrel
        go_wp2
        go_ret
        exact ⟨⟨_, rfl, fun _ => by first | exact unhide HSS | exact ⟨by omega, unhide HSS⟩⟩, rfl⟩
    · have HC := hide hc
      clear hc
      have HZ := hide hz
      clear hz
      go_enter Try.func40, Try.ntmps40
      go_wp2
      go_loop [1, 5] (fun l i => ∃ k : Nat, k ≤ n ∧ i = .int .i64 k ∧ ∃ r : Int, l = .int .i64 r ∧ 0 ≤ r ∧ r ≤ 1048576 ∧ ∀ s ∈ ss.take k, s.size ≤ 1048576) (fun _ i => n - (intOf i).toNat)
      case atStart => exact ⟨0, Nat.zero_le _, rfl, _, rfl, by omega, by omega, by simp⟩
      case round =>
        obtain ⟨k, hk, rfl, r, rfl, r1, r2, hall⟩ := hrel
        have HA := hide hall
        clear hall
        by_cases hlt : k < n
        · have hks : k < ss.length := by rw [unhide HL]; exact hlt
          have hcell := unhide HC k hks
          have hsz := unhide HZ ss[k] (List.getElem_mem hks)
          have st : ∀ s ∈ ss.take (k + 1), s ∈ ss.take k ∨ s = ss[k] := by
            intro s hs
            rw [List.take_succ_eq_append_getElem hks, List.mem_append] at hs
            rcases hs with h | h
            · exact .inl h
            · exact .inr (by simpa using h)
          have ST := hide st
          clear st
          generalize hx : ss[k] = x at *
          have HX := hide hx
          clear hx
          by_cases hneg : r - x.size < 0
          · go_wp2
            go_ret
            exact ⟨⟨_, rfl, fun h => by omega⟩, rfl⟩
          · go_wp2
            go_round
            case rel =>
              refine ⟨k + 1, by omega, by go_num, _, rfl, by omega, by omega, ?_⟩
              intro s hs
              rcases unhide ST s hs with h | h
              · exact unhide HA s h
              · rw [h]; omega
            case measure => simp [intOf]; omega
        · go_wp2
          go_ret
          refine ⟨⟨_, rfl, fun _ => ⟨by omega, ?_⟩⟩, rfl⟩
          have := unhide HA
          rwa [List.take_of_length_le (by rw [unhide HL]; omega)] at this
/-- The row of strings that toStringS fills. -/
def srow (ss : List ByteArray) (n k : Nat) : Array Value := ((ss.take k).map Value.string ++ List.replicate (n - k) (Value.string ByteArray.empty)).toArray
theorem srow_step (ss : List ByteArray) (n k : Nat) (hk : k < ss.length) (hn : k < n) : (srow ss n k).setIfInBounds k (.string ss[k]) = srow ss n (k + 1) := by
  unfold srow
  rw [List.setIfInBounds_toArray]
  congr 1
  rw [show n - k = (n - (k + 1)) + 1 by omega, List.replicate_succ, List.take_succ_eq_append_getElem hk, List.map_append, List.set_append_right _ _ (by simp; omega)]
  have hz : k - (List.map Value.string (List.take k ss)).length = 0 := by simp; omega
  rw [hz]
  simp only [List.map_cons, List.map_nil, List.append_assoc, List.cons_append, List.nil_append, List.set_cons_zero]
theorem srow_size (ss : List ByteArray) (n k : Nat) (hk : k ≤ ss.length) (hn : k ≤ n) : (srow ss n k).size = n := by unfold srow; simp; omega
theorem srow_get (ss : List ByteArray) (n k j : Nat) (hj : j < k) (hk : j < ss.length) : (srow ss n k)[j]? = some (.string ss[j]) := by
  unfold srow
  rw [List.getElem?_toArray, List.getElem?_append_left (by simp; omega), List.getElem?_map, List.getElem?_take_of_lt hj, List.getElem?_eq_getElem hk]; rfl
theorem srow_alloc {X : World} {a b : Array Value} (h : a = b) : X.alloc (.cells a 9) = X.alloc (.cells b 9) := by rw [h]
theorem made_srow (ss : List ByteArray) (n : Nat) : madeCells #[.string ByteArray.empty] n = srow ss n 0 := by
  apply Array.toList_inj.1
  rw [toList_madeCells_one]; simp [srow]
set_option maxRecDepth 100000 in
set_option maxHeartbeats 400000 in
theorem toS (a : Option Addr) (n cap : Nat) (ss : List ByteArray) (w : World) (hS : SL a n ss w) (hn : n ≤ 1048576) :
    Calls Try.prog 42 #[.slice a n cap] w fun e w' => e = .returned (.slice (some ⟨w.heap.size, 0, none⟩) n n) ∧ w.alloc (.cells (srow ss n n) 9) = w' := by
  have hmk := fun W => run_make_row' (P := Try.prog) 33 9 (.string ByteArray.empty) 16 (by kernel_rfl) str_info9 rfl .i64 .i64 n (by omega) (by omega) W
  rw [made_srow ss n] at hmk
  obtain ⟨hlen, hS⟩ := hS
  have HL := hide hlen
  clear hlen
  rcases hS with rfl | ⟨b, off, rfl, hc⟩
  · have hmk0 : ∀ W, (Instr.makeSlice 33 (.int .i64 0) (.int .i64 0)).run Try.prog W = .ok (.slice (some ⟨W.heap.size, 0, none⟩) 0 0) (W.alloc (.cells (srow ss 0 0) 9)) := hmk
    clear hmk
    go_enter Try.func42, Try.ntmps42
    go_wp2
    go_loopw [4] (fun i W => i = .int .i64 0 ∧ W = w.alloc (.cells (srow ss 0 0) 9)) (fun _ _ => 0)
    case atStart => exact ⟨rfl, rfl⟩
    case round =>
      obtain ⟨rfl, rfl⟩ := hrel
      go_wp2
      go_ret
      exact ⟨rfl, rfl⟩
  · have HC := hide hc
    clear hc
    go_enter Try.func42, Try.ntmps42
    go_wp2
    go_loopw [4] (fun i W => ∃ k : Nat, k ≤ n ∧ i = .int .i64 k ∧ W = w.alloc (.cells (srow ss n k) 9)) (fun i _ => n - (intOf i).toNat)
    case atStart => exact ⟨0, Nat.zero_le _, rfl, rfl⟩
    case round =>
      obtain ⟨k, hk, rfl, rfl⟩ := hrel
      by_cases hlt : k < n
      · have hks : k < ss.length := by rw [unhide HL]; exact hlt
        have hcell : (w.alloc (.cells (srow ss n k) 9)).cell? ⟨b, off + k, none⟩ = some (.string ss[k]) := cell_later (bal (brf w) _) (unhide HC k hks)
        have st := srow_step ss n k hks hlt
        obtain ⟨x0, hx0⟩ : ∃ x, (srow ss n k)[k]? = some x := ⟨_, Array.getElem?_eq_getElem (by rw [srow_size ss n k (by omega) hk]; exact hlt)⟩
        have ST := hide st
        clear st
        generalize srow ss n k = R at *
        go_wp2
        exact ⟨⟨k + 1, by omega, by go_num, srow_alloc (unhide ST)⟩, by simp [intOf]; omega⟩
      · have : k = n := by omega
        subst this
        generalize hR : srow ss k k = R at *
        have HR := hide hR
        clear hR hmk
        go_wp2
        go_ret
        exact ⟨rfl, by rw [unhide HR]⟩
theorem SL_made (ss : List ByteArray) (n : Nat) (w : World) (h : ss.length = n) : SL (some ⟨w.heap.size, 0, none⟩) n ss (w.alloc (.cells (srow ss n n) 9)) :=
  ⟨h, .inr ⟨w.heap.size, 0, rfl, fun i hi => by rw [Nat.zero_add, World.cell?_alloc_new]; exact srow_get ss n n i (by omega) hi⟩⟩
set_option maxHeartbeats 400000 in
theorem eqS (a b : Option Addr) (n ca cb : Nat) (ss : List ByteArray) (w : World) (hA : SL a n ss w) (hB : SL b n ss w) (hn : n ≤ 1048576) :
    Calls Try.prog 43 #[.slice a n ca, .slice b n cb] w fun e w' => e = .returned (.bool true) ∧ Below w.heap.size w w' := by
  obtain ⟨hlen, hA⟩ := hA
  have HL := hide hlen
  clear hlen
  obtain ⟨_, hB⟩ := hB
  rcases hA with rfl | ⟨b1, o1, rfl, hc1⟩
  · go_enter Try.func43, Try.ntmps43
    go_wp2
    go_loop [5] (fun i => i = .int .i64 0) (fun _ => 0)
    case atStart => exact rfl
    case round =>
      subst hrel
      go_wp2
      go_ret
      exact ⟨rfl, brf _⟩
  · rcases hB with rfl | ⟨b2, o2, rfl, hc2⟩
    · go_enter Try.func43, Try.ntmps43
      go_wp2
      go_loop [5] (fun i => i = .int .i64 0) (fun _ => 0)
      case atStart => exact rfl
      case round =>
        subst hrel
        go_wp2
        go_ret
        exact ⟨rfl, brf _⟩
    · have HC1 := hide hc1
      have HC2 := hide hc2
      clear hc1 hc2
      go_enter Try.func43, Try.ntmps43
      go_wp2
      go_loopw [5] (fun i W => ∃ k : Nat, k ≤ n ∧ i = .int .i64 k ∧ Below w.heap.size w W) (fun i _ => n - (intOf i).toNat)
      case atStart => exact ⟨0, Nat.zero_le _, rfl, brf _⟩
      case round =>
        obtain ⟨k, hk, rfl, hbel⟩ := hrel
        by_cases hlt : k < n
        · have hks : k < ss.length := by rw [unhide HL]; exact hlt
          have hcell1 := cell_later hbel (unhide HC1 k hks)
          have hcell2 := cell_later hbel (unhide HC2 k hks)
          have i1 : (0 : Int) ≤ (k : Int) := by omega
          have i2 : (k : Int) < (n : Int) := by omega
          generalize ss[k] = x at *
          go_wp2
          go_quiet (fail)
          go_wp2
          exact ⟨⟨k + 1, by omega, by go_num, below_drewN hbel _⟩, by simp [intOf]; omega⟩
        · go_wp2
          go_ret
          exact ⟨rfl, hbel⟩
end Go.Proofs.Ytmbllgblbdfobaa
