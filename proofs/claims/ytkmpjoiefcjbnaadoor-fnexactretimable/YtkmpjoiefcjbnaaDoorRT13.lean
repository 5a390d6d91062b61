/- numberSet's first: it answers some number. -/
import Derived.Test.YtkmpjoiefcjbnaaDoorRTB
import Derived.Test.YtkmpjoiefcjbnaaDoorBR
import Derived.Test.YtkmpjoiefcjbnaaDoorCF
import Derived.RangeFuncNested
import Derived.Shelf.RegionOpen
import Derived.WalkKit
import Derived.OwnWalkIn
import Derived.TacticsInMore
import Derived.LoopNIn
import Derived.LoopIn
namespace Go.Proofs.YtkmpjoiefcjbnaaDoor
open Go.RowKit Gs
set_option linter.unusedVariables false
set_option linter.unusedSimpArgs false
set_option maxRecDepth 100000
/-- The table of math/bits holds bytes. -/
def Tz (W : World) : Prop := ∀ j, j < 64 → ∃ z : Int, W.cell? ⟨0, j, none⟩ = some (.int .u8 z) ∧ 0 ≤ z ∧ z < 256
set_option maxHeartbeats 4000000 in
theorem iTz (W : World) (x : Nat) (h0 : 0 < x) (hx : x < 2 ^ 64) (ht : Tz W) :
    Calls Tryd.prog 90 #[.int .u64 (x : Int)] W fun e w' => (∃ z : Int, e = .returned (.int .i64 z) ∧ 0 ≤ z ∧ z < 256) ∧ w' = W := by
  have x0 : (x : Int) ≠ 0 := by omega
  have hq : 0 ≤ IntKind.u64.wrap (bits BinOp.and IntKind.u64 (x : Int) (IntKind.u64.wrap (-(x : Int))) * 285870213051353865) / 288230376151711744 ∧ IntKind.u64.wrap (bits BinOp.and IntKind.u64 (x : Int) (IntKind.u64.wrap (-(x : Int))) * 285870213051353865) / 288230376151711744 < 64 := by
    generalize bits BinOp.and IntKind.u64 (x : Int) (IntKind.u64.wrap (-(x : Int))) * 285870213051353865 = y
    have : IntKind.u64.wrap y = y % 18446744073709551616 := by simp [IntKind.wrap, IntKind.signed, IntKind.bits]
    rw [this]
    omega
  obtain ⟨z, hz, z0, z1⟩ := ht _ (by have := hq; omega : (IntKind.u64.wrap (bits BinOp.and IntKind.u64 (x : Int) (IntKind.u64.wrap (-(x : Int))) * 285870213051353865) / 288230376151711744).toNat < 64)
  go_enter Tryd.func90, Tryd.ntmps90
  go_wp2
  go_ret
  exact ⟨⟨z, by go_num, z0, z1⟩, rfl⟩
theorem run_word (k : Nat) (M : Array Value) (v : Value) (w : World) (hk : k < 4) (hv : M[k]? = some v) : (Instr.index 94 (.agg M) (.int .i64 (k : Int))).run Tryd.prog w = .ok v w := by
  have h0 : (0 : Int) ≤ (k : Int) ∧ (k : Int) < ((4 : Nat) : Int) := by omega
  have c9 : (sizeOf 92).run Tryd.prog w = .ok 1 w := by kernel_rfl
  simp [Instr.index, run_underlying Tryd.underlying94, asIntOf, h0, go_sem, hv, c9]
  intro h; omega
theorem less_word (x : Nat) (hx : x < 2 ^ 64) (h0 : 0 < x) : ∃ y : Nat, bits .and .u64 (x : Int) ((x : Int) - 1) = (y : Int) ∧ y < x := by
  have e1 : (x : Int) = U (BitVec.ofNat 64 x) := by unfold U; rw [BitVec.toNat_ofNat, Nat.mod_eq_of_lt hx]
  have e2 : (x : Int) - 1 = U (BitVec.ofNat 64 (x - 1)) := by unfold U; rw [BitVec.toNat_ofNat, Nat.mod_eq_of_lt (by omega)]; omega
  refine ⟨x &&& (x - 1), ?_, Nat.lt_of_le_of_lt Nat.and_le_right (by omega)⟩
  rw [e2, e1, U_and]
  unfold U
  rw [BitVec.toNat_and, BitVec.toNat_ofNat, BitVec.toNat_ofNat, Nat.mod_eq_of_lt hx, Nat.mod_eq_of_lt (by omega)]
attribute [local go_sem] Oper.semAt_some
open Go.Shelf in
set_option maxHeartbeats 8000000 in
theorem iEach (n m : Nat) (hm : m < 2 ^ 64) (hn : 3 ≤ n) (w : World) :
    SeqB Fence.wide n Tryd.prog 79 #[.agg #[.int .u64 (m : Int), .int .u64 0, .int .u64 0, .int .u64 0]] (fun z : Int => .int .i64 z) Tz (fun _ _ => True) (fun _ => True) (fun _ => True) w := by
  intro l J Jx W hW hT hJ hY h0
  have h1 : 1 ≤ n := by omega
  refine callsIn_of_wp Tryd.func79 rfl trivial ?_ rfl
  simp only [Tryd.ntmps79, List.size_toArray, List.length_cons, List.length_nil, Nat.reduceAdd, Nat.reduceSub, Array.replicate_succ, Array.replicate_zero, List.push_toArray, List.append_toArray, List.nil_append, List.cons_append]
  gi_wp2
  gi_loopw [7] (fun i wr => ∃ (k : Nat) (pre : List Int), k ≤ 4 ∧ i = .int .i64 k ∧ J pre wr) (fun i _ => 4 - (intOf i).toNat)
  case atStart => exact ⟨0, [], Nat.zero_le _, rfl, hJ _ _ _ h0 (bal (brf _) _)⟩
  case round =>
    obtain ⟨k, pre, hk, rfl, hj⟩ := hrel
    by_cases hk4 : k < 4
    · obtain ⟨wv, hwv, hwm⟩ : ∃ wv : Nat, (#[.int .u64 (m : Int), .int .u64 0, .int .u64 0, .int .u64 0] : Array Value)[k]? = some (.int .u64 (wv : Int)) ∧ wv < 2 ^ 64 := by
        have hk5 : k = 0 ∨ k = 1 ∨ k = 2 ∨ k = 3 := by omega
        rcases hk5 with rfl | rfl | rfl | rfl
        · exact ⟨m, rfl, hm⟩
        all_goals exact ⟨0, rfl, by omega⟩
      have hix := fun v => run_word k #[.int .u64 (m : Int), .int .u64 0, .int .u64 0, .int .u64 0] (.int .u64 (wv : Int)) v hk4 hwv
      clear hwv
      have i1 : (k : Int) < 4 := by omega
      gi_wp2
      gi_loopw [5] (fun i wr => ∃ (x : Nat) (pre : List Int), x < 2 ^ 64 ∧ i = .int .u64 x ∧ J pre wr) (fun i _ => (intOf i).toNat)
      case atStart => exact ⟨wv, pre, hwm, rfl, hj⟩
      case round =>
        clear hix
        obtain ⟨x, pre2, hx, rfl, hj2⟩ := hrel
        by_cases hx0 : x = 0
        · subst hx0
          gi_wp2
          exact ⟨⟨k + 1, pre2, by omega, by first | rfl | go_num, hj2⟩, by simp [intOf]; omega⟩
        · have TZ := hide (iTz wr x (by omega) hx (hT _ _ hj2))
          have HYY := hide (fun z : Int => hY pre2 ((k : Int) * 64 + z) wr hj2 trivial)
          obtain ⟨y, hy1, hy2⟩ := less_word x hx (by omega)
          have x0 : (x : Int) ≠ 0 := by omega
          clear hY
          gi_wp2
          refine ⟨trivial, ?_⟩
          refine (callsIn_wide.2 (unhide TZ)).mono ?_
          rintro e V1 ⟨⟨z, rfl, z0, z1⟩, rfl⟩
          obtain ⟨fn, tmps, assign, body, hy, hR⟩ := unhide HYY z
          clear HYY TZ
          gi_wp2
          refine hR.mono ?_
          rintro e W3 (⟨rfl, hJ3⟩ | ⟨rfl, hJx3⟩)
          · gi_wp2
            exact ⟨⟨y, _, by omega, rfl, hJ3⟩, by simp [intOf]; omega⟩
          · gi_wp2
            refine bodyPost_ret (results_none rfl _ _ _) rfl ?_
            exact ⟨⟨_, rfl⟩, .inr ⟨_, trivial, hJx3⟩⟩
    · obtain rfl : k = 4 := by omega
      gi_wp2
      go_end0
      exact ⟨⟨_, rfl⟩, .inl ⟨_, trivial, hj⟩⟩
theorem Tz.later {W V : World} (h : Tz W) (hb : Below W.heap.size W V) : Tz V := fun j hj => by
  obtain ⟨z, h1, h2⟩ := h j hj
  exact ⟨z, cell_later hb h1, h2⟩
set_option maxHeartbeats 8000000 in
open Go.Shelf in
theorem iFirst (m : Nat) (V : World) (hm : m < 256) (ht : Tz V) :
    Calls Tryd.prog 53 #[.agg #[.int .u64 (m : Int), .int .u64 0, .int .u64 0, .int .u64 0]] V fun e w' => (∃ z, e = .returned (.int .i64 z)) ∧ Below V.heap.size V w' := by
  refine (callsIn_wide (n := 6)).1 ?_
  refine callsIn_of_wp_marks Tryd.func53 rfl trivial ?_ rfl
  simp only [Tryd.ntmps53, List.size_toArray, List.length_cons, List.length_nil, Nat.reduceAdd, Nat.reduceSub, Array.replicate_succ, Array.replicate_zero, List.push_toArray, List.append_toArray, List.nil_append, List.cons_append]
  have hmf : ∀ (fn : Fn) (first cap : Array Value) (w : World), (Instr.makeFunc fn first cap).run Tryd.prog w = .ok (.func fn first cap) w := fun _ _ _ _ => rfl
  gi_wp2
  have b0 : Below V.heap.size V ((V.alloc (.cells #[.int .u64 (m : Int), .int .u64 0, .int .u64 0, .int .u64 0] 94)).alloc (.cells #[.int .i64 0] 3)) := bal (bal (brf _) _) _
  have c1 : ((V.alloc (.cells #[.int .u64 (m : Int), .int .u64 0, .int .u64 0, .int .u64 0] 94)).alloc (.cells #[.int .i64 0] 3)).cell? ⟨V.heap.size + 1, 0, none⟩ = some (.int .i64 0) := two_next _ _ _ _ _ rfl
  have f1 : ((V.alloc (.cells #[.int .u64 (m : Int), .int .u64 0, .int .u64 0, .int .u64 0] 94)).alloc (.cells #[.int .i64 0] 3)).frozen? ⟨V.heap.size + 1, 0, none⟩ = false := by simp
  obtain ⟨W0, hW0⟩ : ∃ W0, ((V.alloc (.cells #[.int .u64 (m : Int), .int .u64 0, .int .u64 0, .int .u64 0] 94)).alloc (.cells #[.int .i64 0] 3)) = W0 := ⟨_, rfl⟩
  have hs0 : W0.heap.size = V.heap.size + 2 := by rw [← hW0]; simp
  rw [hW0] at b0 c1 f1 ⊢
  clear hW0
  refine wpIn_rangeB (gf := 79) (fs := #[.agg #[.int .u64 (m : Int), .int .u64 0, .int .u64 0, .int .u64 0]]) rfl (by omega) rfl trivial (enters_of Tryd.func79 (by kernel_rfl) rfl) (iEach 5 m (by omega) (by omega) _)
    (fun pre W => Below V.heap.size V W ∧ W.cell? ⟨V.heap.size + 1, 0, none⟩ = some (.int .i64 0) ∧ W.frozen? ⟨V.heap.size + 1, 0, none⟩ = false)
    (fun pre W => Below V.heap.size V W ∧ ∃ z : Int, W.cell? ⟨V.heap.size + 1, 0, none⟩ = some (.int .i64 z))
    (fun s W X h k => ⟨h.1.trans (k.under (by omega) h.1.size), k.cell h.2.1, (k.frozen h.2.1).trans h.2.2⟩)
    (fun s W X h k => ⟨h.1.trans (k.under (by omega) h.1.size), h.2.elim fun z hz => ⟨z, k.cell hz⟩⟩)
    (fun s W h => ht.later h.1) ⟨b0, c1, f1⟩
    (fun x => { tmps := #[.agg #[.int .u64 (m : Int), .int .u64 0, .int .u64 0, .int .u64 0], .pointer (some ⟨V.heap.size, 0, none⟩), .pointer (some ⟨V.heap.size + 1, 0, none⟩), .int .i64 x, .agg #[.int .u64 (m : Int), .int .u64 0, .int .u64 0, .int .u64 0], .func (.func 79) #[.agg #[.int .u64 (m : Int), .int .u64 0, .int .u64 0, .int .u64 0]] #[], .int .i64 x, undef], defers := [] }) ?assign ?body ?done ?stop
  case assign =>
    intro l x W K hK
    gi_wp2
    exact hK
  case body =>
    rintro l pre x W ⟨hB, hc, hf⟩ _
    gi_wp2
    exact ⟨(KeepsOthers.setCell _ _ _).from _, hB.setCell (p := ⟨V.heap.size + 1, 0, none⟩) (by simp) _, x, World.cell?_setCell_same (w := W) (a := ⟨V.heap.size + 1, 0, none⟩) (v := _) hc⟩
  case done =>
    rintro D xs W hD _ ⟨hB, hc, hf⟩ hK
    gi_wp2
    have hK' := (KeepsOthers.setCell W ⟨V.heap.size + 1, 0, none⟩ (.int .i64 (-1))).same D _ hK rfl
    refine ⟨by simp, .inl ⟨_, _, rfl, run_takeDeferred hK', ?_⟩⟩
    have hn : Near W0.heap.size (W.setCell ⟨V.heap.size + 1, 0, none⟩ (.int .i64 (-1))) ((W.setCell ⟨V.heap.size + 1, 0, none⟩ (.int .i64 (-1))).putObj D (.deferred none)) := .turn _ hD hK' rfl
    have hc5 := hn.cell (World.cell?_setCell_same (w := W) (a := ⟨V.heap.size + 1, 0, none⟩) (v := (.int .i64 (-1))) hc)
    have hB5 := hB.setCell (p := ⟨V.heap.size + 1, 0, none⟩) (by simp) (.int .i64 (-1))
    refine ⟨.int .i64 (-1), ?_, ⟨_, rfl⟩, hB5.trans (hn.under (by omega) hB5.size)⟩
    simp [results, Tryd.results53, go_sem, hc5]
  case stop =>
    rintro D pre W hD _ ⟨hB, z, hc⟩ hK
    gi_wp2
    refine ⟨by simp, .inl ⟨_, _, rfl, run_takeDeferred hK, ?_⟩⟩
    have hn : Near W0.heap.size W (W.putObj D (.deferred none)) := .turn _ hD hK rfl
    have hc5 := hn.cell hc
    refine ⟨.int .i64 z, ?_, ⟨_, rfl⟩, hB.trans (hn.under (by omega) hB.size)⟩
    simp [results, Tryd.results53, go_sem, hc5]
end Go.Proofs.YtkmpjoiefcjbnaaDoor
