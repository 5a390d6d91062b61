/- Plain data: structures and how they are read out of cells. -/
import Derived.Test.YtlldfaniddbjaaaGreatDoorGGS2
import Derived.Test.YtlldfaniddbjaaaGreatDoorGBits
import Derived.OwnWalk
import Derived.Deep.Upon
namespace Go.Proofs.YtlldfaniddbjaaaGreatDoor
open Go.RowKit Gs
set_option linter.unusedVariables false
set_option maxRecDepth 100000
structure Block where
  name : ByteArray
  inp : (List Int)
  table : Int
  reg : Bool
  init : Int
  clock : Int
def RBlock : Rd Block := fun W B x u => ∃ v1, u = [.string x.name, v1, .int .i64 x.table, .bool x.reg, .int .i64 x.init, .int .i64 x.clock] ∧ x.name.size ≤ maxLen ∧ RS 1 RInt W B x.inp v1
theorem RBlock.keeps : Keeps RBlock := by
  rintro W W' B x u h ⟨v1, hu, h0, h1⟩
  exact ⟨v1, hu, h0, h1.keep RInt.keeps h⟩
theorem RBlock.lowers : Lowers RBlock := by
  rintro W B B' x u h ⟨v1, hu, h0, h1⟩
  exact ⟨v1, hu, h0, h1.low RInt.lowers h⟩
def szBlock (x : Block) : Nat := x.name.size + szL (fun (_ : Int) => 0) x.inp
structure Port where
  name : ByteArray
  src : Int
def RPort : Rd Port := fun W B x u => u = [.string x.name, .int .i64 x.src] ∧ x.name.size ≤ maxLen
theorem RPort.keeps : Keeps RPort := by
  rintro W W' B x u h ⟨hu, h0⟩
  exact ⟨hu, h0⟩
theorem RPort.lowers : Lowers RPort := by
  rintro W B B' x u h ⟨hu, h0⟩
  exact ⟨hu, h0⟩
def szPort (x : Port) : Nat := x.name.size
structure Packed where
  ins : (List ByteArray)
  clocks : (List ByteArray)
  blocks : (List Block)
  outs : (List Port)
  checks : (List Port)
def RPacked : Rd Packed := fun W B x u => ∃ v0, ∃ v1, ∃ v2, ∃ v3, ∃ v4, u = [v0, v1, v2, v3, v4] ∧ RS 1 RStr W B x.ins v0 ∧ RS 1 RStr W B x.clocks v1 ∧ RS 6 RBlock W B x.blocks v2 ∧ RS 2 RPort W B x.outs v3 ∧ RS 2 RPort W B x.checks v4
theorem RPacked.keeps : Keeps RPacked := by
  rintro W W' B x u h ⟨v0, v1, v2, v3, v4, hu, h0, h1, h2, h3, h4⟩
  exact ⟨v0, v1, v2, v3, v4, hu, h0.keep RStr.keeps h, h1.keep RStr.keeps h, h2.keep RBlock.keeps h, h3.keep RPort.keeps h, h4.keep RPort.keeps h⟩
theorem RPacked.lowers : Lowers RPacked := by
  rintro W B B' x u h ⟨v0, v1, v2, v3, v4, hu, h0, h1, h2, h3, h4⟩
  exact ⟨v0, v1, v2, v3, v4, hu, h0.low RStr.lowers h, h1.low RStr.lowers h, h2.low RBlock.lowers h, h3.low RPort.lowers h, h4.low RPort.lowers h⟩
def szPacked (x : Packed) : Nat := szL (fun (s : ByteArray) => s.size) x.ins + szL (fun (s : ByteArray) => s.size) x.clocks + szL szBlock x.blocks + szL szPort x.outs + szL szPort x.checks
end Go.Proofs.YtlldfaniddbjaaaGreatDoor
namespace Go.Proofs.YtlldfaniddbjaaaGreatDoor
open Go.RowKit Gs
set_option linter.unusedVariables false
set_option maxRecDepth 100000
/-- Strings in a row of one's own. -/
def OS (B : Nat) (W : World) (v : Value) (xs : List ByteArray) : Prop := W.ownsRow B 9 1 v xs.length (xs.map Value.string) ∧ ∀ s ∈ xs, s.size ≤ maxLen
theorem OS_nil (B : Nat) (W : World) : OS B W (.slice none 0 0) [] := ⟨World.ownsRow_nil _ _ _ _, fun _ h => by cases h⟩
theorem OS.later {B : Nat} {v : Value} {xs : List ByteArray} {W W' : World} (h : OS B W v xs) (hb : Below W.heap.size W W') : OS B W' v xs := by
  obtain ⟨⟨h1, h2 | ⟨g, cap, cur, hv, hg, hc, rest⟩⟩, h3⟩ := h
  · exact ⟨⟨h1, .inl h2⟩, h3⟩
  · exact ⟨⟨h1, .inr ⟨g, cap, cur, hv, hg, (hb.block g (Array.getElem?_eq_some_iff.1 hc).1).trans hc, rest⟩⟩, h3⟩
theorem OS.read {B : Nat} {v : Value} {xs : List ByteArray} {W : World} (h : OS B W v xs) (hl : xs.length ≤ maxLen) : RS 1 RStr W B xs v := by
  obtain ⟨hr, h3⟩ := h
  have hc := fun g hg => World.ownsRow.cells hr (g := g) hg
  rcases hr.2 with ⟨rfl, hn⟩ | ⟨g, cap, cur, rfl, hb, hg, hlc, hm, _⟩
  · have : xs = [] := List.length_eq_zero_iff.1 hn
    subst this
    exact RS.nil _ _ _ _ _ _
  · refine ⟨_, _, rfl, hlc, hl, fun _ => ⟨g, 0, rfl, hb, fun i x hx => ?_⟩⟩
    refine ⟨[.string x], rfl, fun j y hj => ?_, rfl, h3 x (List.mem_of_getElem? hx)⟩
    have hj0 : j = 0 := by
      cases j with
      | zero => rfl
      | succ j => simp at hj
    subst hj0
    simp at hj
    subst hj
    have := hc g rfl i (.string x) (by rw [List.getElem?_map, hx]; rfl)
    rw [Addr.add_lit] at this
    simpa using this
theorem OS.step {B : Nat} {v : Value} {xs : List ByteArray} {W : World} {s : ByteArray} (h : W.ownsRow B 9 1 v (xs.length + 1) (xs.map Value.string ++ [.string s])) (h3 : ∀ s ∈ xs, s.size ≤ maxLen) (hs : s.size ≤ maxLen) : OS B W v (xs ++ [s]) := by
  refine ⟨?_, fun t ht => ?_⟩
  · rw [List.length_append, List.map_append]; exact h
  · rcases List.mem_append.1 ht with h | h
    · exact h3 t h
    · simp at h; subst h; exact hs
theorem info9 : (Tryz.prog.info? 9).map (fun i => (i.zero, i.size, i.bytes)) = some (some (.string ByteArray.empty), 1, 16) := by kernel_rfl
theorem newS (W : World) (s : ByteArray) (g : Nat) (hg : g = W.heap.size) : ∀ j u, [Value.string s][j]? = some u → (W.alloc (.cells #[.string s] 9)).cell? ((⟨g, 0, none⟩ : Addr).add j) = some u := by
  intro j u h
  subst hg
  match j, h with
  | 0, h => simp at h; subst h; simp [Addr.add]
  | j + 1, h => simp at h
theorem oneS (s : ByteArray) : ∀ u ∈ [Value.string s], u.oneCell' = true := by
  intro u hu; simp at hu; subst hu; rfl
theorem below_grown {B : Nat} {w W V : World} {row : Option Nat} (h : Below B w W) (hg : W.grownBy V row) (hB : B ≤ W.heap.size) (hr : ∀ j, row = some j → B ≤ j) : Below B w V := h.grown hg hB hr
theorem own_row {B : Nat} {v : Value} {n : Nat} {xs : List Value} {W : World} (h : W.ownsRow B 9 1 v n xs) : ∀ j, v.ownBlock = some j → B ≤ j := fun j hj => (h.lt j hj).1
end Go.Proofs.YtlldfaniddbjaaaGreatDoor
namespace Go.Proofs.YtlldfaniddbjaaaGreatDoor
open Go.RowKit Gs
set_option linter.unusedVariables false
set_option maxRecDepth 100000
theorem iPlace (n c : Int) (w : World) : Calls Tryz.prog 56 #[.int .i64 n, .int .i64 c] w fun e w' => e = .returned (.bool (decide (0 ≤ n) && decide (n < c))) ∧ w' = w := by
  go_enter Tryz.func56, Tryz.ntmps56
  by_cases h0 : 0 ≤ n
  · go_wp2
    exact bodyPost_ret (v := .bool (decide (n < c))) (by simp [results, Tryz.results56, go_sem]) rfl ⟨by rw [show decide (0 ≤ n) = true from decide_eq_true (by omega)]; rfl, rfl⟩
  · have h1 : n < 0 := by omega
    go_wp2
    exact bodyPost_ret (v := .bool false) (by simp [results, Tryz.results56, go_sem]) rfl ⟨by rw [show decide (0 ≤ n) = false from decide_eq_false (by omega)]; rfl, rfl⟩
end Go.Proofs.YtlldfaniddbjaaaGreatDoor
namespace Go.Proofs.YtlldfaniddbjaaaGreatDoor
open Go.RowKit Gs
set_option linter.unusedVariables false
set_option maxRecDepth 100000
theorem iNameFits (s : ByteArray) (w : World) (hs : s.size ≤ maxLen) : Calls Tryz.prog 126 #[.string s] w fun e w' => e = .returned (.bool (decide (1 ≤ s.size) && decide (s.size ≤ 1000))) ∧ w' = w := by
  unfold maxLen at hs
  go_enter Tryz.func126, Tryz.ntmps126
  by_cases h0 : 1 ≤ (s.size : Int)
  · go_wp2
    exact bodyPost_ret (v := .bool (decide ((s.size : Int) ≤ 1000))) (by simp [results, Tryz.results126, go_sem]) rfl ⟨by rw [show decide (1 ≤ s.size) = true from decide_eq_true (by omega), show decide ((s.size : Int) ≤ 1000) = decide (s.size ≤ 1000) from decide_eq_decide.2 (by omega)]; rfl, rfl⟩
  · have h1 : (s.size : Int) < 1 := by omega
    go_wp2
    exact bodyPost_ret (v := .bool false) (by simp [results, Tryz.results126, go_sem]) rfl ⟨by rw [show decide (1 ≤ s.size) = false from decide_eq_false (by omega)]; rfl, rfl⟩
def signOp (n : Int) : Bool := decide (n = 7) || decide (n = 8) || decide (n = 12) || decide (n = 13)
def cellOp (n : Int) : Bool := decide (n ≠ 7) && decide (n ≠ 8) && decide (n ≠ 11) && decide (1 ≤ n) && decide (n ≤ 29)
end Go.Proofs.YtlldfaniddbjaaaGreatDoor
namespace Go.Proofs.YtlldfaniddbjaaaGreatDoor
open Go.RowKit Gs
set_option linter.unusedVariables false
set_option maxRecDepth 100000
def nmOK (s : ByteArray) : Bool := decide (1 ≤ s.size) && decide (s.size ≤ 1000)
def namesB (ss : List ByteArray) : Bool := ss.all nmOK && decide ss.Nodup
set_option maxHeartbeats 1600000 in
theorem iNamesFit (ss : List ByteArray) (v : Value) (w : World) (hl : ss.length ≤ 2097152) (hr : RS 1 RStr w 0 ss v) :
    Calls Tryz.prog 107 #[v] w fun e w' => e = .returned (.bool (namesB ss)) ∧ Below w.heap.size w w' := by
  have AN := hide (fun W (h : RS 1 RStr W 0 ss v) => iAllNew ss v W hl h)
  have HR := hide hr
  rcases hr.open with ⟨rfl, a, c, rfl⟩ | ⟨b, o, c, rfl, hc, hn, _, hcs⟩
  · clear hr
    go_enter Tryz.func107, Tryz.ntmps107
    go_wp2
    refine wp_loop_rounds 1 ?_
    rw [rounds_succ]
    go_wp2_with (first | (go_at_call 127; refine (unhide AN _ (unhide HR)).mono ?_; rintro e W1 ⟨rfl, hb1⟩; have HB := hide hb1; clear hb1))
    exact bodyPost_ret (v := .bool (decide (List.Nodup ([] : List ByteArray)))) (by simp [results, Tryz.results107, go_sem]) rfl ⟨by simp [namesB], unhide HB⟩
  · unfold maxLen at hn
    have HC := hide hcs
    clear hcs hr
    go_enter Tryz.func107, Tryz.ntmps107
    go_wp2
    go_loop [7] (fun i => ∃ k : Nat, k ≤ ss.length ∧ i = .int .i64 k ∧ (ss.take k).all nmOK = true) (fun i => ss.length - (intOf i).toNat)
    case atStart => exact ⟨0, Nat.zero_le _, rfl, rfl⟩
    case round =>
      obtain ⟨k, hk, rfl, hall⟩ := hrel
      have HA := hide hall
      clear hall
      by_cases hlt : k < ss.length
      · have hx : ss[k]? = some ss[k] := List.getElem?_eq_getElem hlt
        have hmem : ss[k] ∈ ss := List.getElem_mem hlt
        generalize ss[k] = s at hx hmem
        have hst : (ss.take (k + 1)).all nmOK = ((ss.take k).all nmOK && nmOK s) := by
          rw [List.take_add_one, hx, List.all_append]; simp
        obtain ⟨u, hul, hat, hus, hsz⟩ := unhide HC k s hx
        subst hus
        have k0 := hat.get (j := 0) rfl
        simp only [Nat.add_zero, Nat.mul_one] at k0
        have HST := hide hst
        have HX := hide hmem
        clear hat hul HC hst hx hmem
        cases hs : nmOK s
        · go_wp2_with (first | (go_at_call 126; refine (iNameFits s _ hsz).mono ?_; rintro e W1 ⟨rfl, rfl⟩; rw [show (decide (1 ≤ s.size) && decide (s.size ≤ 1000)) = false from hs]))
          refine bodyPost_ret (v := .bool false) (by simp [results, Tryz.results107, go_sem]) rfl ⟨ret_bool ?_, brf _⟩
          unfold namesB
          rw [show ss.all nmOK = false from by rw [← Bool.not_eq_true]; intro h; rw [List.all_eq_true.1 h s (unhide HX)] at hs; cases hs]
          rfl
        · go_wp2_with (first | (go_at_call 126; refine (iNameFits s _ hsz).mono ?_; rintro e W1 ⟨rfl, rfl⟩; rw [show (decide (1 ≤ s.size) && decide (s.size ≤ 1000)) = true from hs]))
          go_round
          case rel => exact ⟨k + 1, by omega, by go_num, by rw [unhide HST, unhide HA, hs]; rfl⟩
          case measure => simp [intOf]; omega
      · obtain rfl : k = ss.length := by omega
        clear HC
        go_wp2_with (first | (go_at_call 127; refine (unhide AN _ (unhide HR)).mono ?_; rintro e W1 ⟨rfl, hb1⟩; have HB := hide hb1; clear hb1))
        refine bodyPost_ret (v := .bool (decide ss.Nodup)) (by simp [results, Tryz.results107, go_sem]) rfl ⟨ret_bool ?_, unhide HB⟩
        have h := unhide HA
        rw [List.take_of_length_le (Nat.le_refl _)] at h
        simp [namesB, h]
end Go.Proofs.YtlldfaniddbjaaaGreatDoor
namespace Go.Proofs.YtlldfaniddbjaaaGreatDoor
open Go.RowKit Gs
set_option linter.unusedVariables false
set_option maxRecDepth 100000
theorem strs_one (ys : List ByteArray) : ∀ u ∈ ys.map Value.string, u.oneCell' = true := by
  intro u hu
  obtain ⟨s, _, rfl⟩ := List.mem_map.1 hu
  rfl
/-- Strings are appended, whatever slice they lie in. -/
theorem wpAppS {ops : Array Oper} {rest : List Oper} {o : Oper} {a : Act} {Q : Exit → Act → World → Prop} {w : World} (hg : o.guard = none) (s x : Operand) (hop : o.op = Op.call { callee := Callee.builtin Builtin.append, args := #[s, x], argTypes := #[22, 22] })
    (B : Nat) (v : Value) (xs : List ByteArray) (hs : a.eval s = v) (hown : OS B w v xs) (xv : Value) (ys : List ByteArray) (hx : a.eval x = xv) (hr : RS 1 RStr w 0 ys xv) (hlen : xs.length + ys.length ≤ 4194304) (hB : B ≤ w.heap.size)
    (hK : ∀ v' w', OS B w' v' (xs ++ ys) → w.grownBy w' v.ownBlock → wpList Tryz.prog ops Q rest (a.put o.dst v') w') : wpList Tryz.prog ops Q (o :: rest) a w := by
  obtain ⟨i0, hi, hz0, hz1, hz2⟩ := info_parts info9
  rcases hr.open with ⟨rfl, ad, c, rfl⟩ | ⟨b, off, c, rfl, hc, hn, _, hcs⟩
  · obtain ⟨sa, sl, sc, rfl, hle⟩ : ∃ sa sl sc, v = .slice sa sl sc ∧ sl ≤ sc := by
      rcases hown.1.2 with ⟨rfl, _⟩ | ⟨g, cap, cur, rfl, _, _, h, _⟩
      · exact ⟨_, _, _, rfl, Nat.le_refl _⟩
      · exact ⟨_, _, _, rfl, h⟩
    have hS : Src Tryz.prog i0.size 22 (.slice ad 0 c) 0 [] w := by
      cases ad with
      | none => exact Src.ofNil w Tryz.underlying22 c
      | some ad => exact Src.ofSlice w Tryz.underlying22 ad 0 c [] (by simp) (fun j u h => by simp at h) (fun _ h => by cases h)
    have hrun := run_append_nothing (P := Tryz.prog) w 22 22 o.type 9 i0 Tryz.underlying22 hi sa sl sc hle _ hS
    refine wpList_plain hg fun K hK' => ?_
    unfold Oper.wp
    simp [execOp, hop, resolve, invoke, builtin, hs, hx, hrun, Result.andThen]
    exact hK' _ _ (hK _ w (by simpa using hown) (World.grownBy.refl _ _))
  · refine wpList_append_own _ hg s x 22 hop B 9 i0 (.string ByteArray.empty) 1 16 Tryz.underlying22 hi hz0 hz1 hz2 rfl (by decide) v xs.length (xs.map Value.string) hs hown.1 ⟨b, off, none⟩ ys.length c (ys.map Value.string) hx (by simp) ?_ (strs_one ys) (by unfold maxLen; omega) (by omega) hB ?_
    · intro j u hj
      rw [List.getElem?_map, Option.map_eq_some_iff] at hj
      obtain ⟨y, hy, rfl⟩ := hj
      obtain ⟨u, hul, hat, hu, _⟩ := hcs j y hy
      subst hu
      have := hat.get (j := 0) rfl
      rw [Addr.add_lit]
      simpa using this
    · intro v' w' ho hgr _
      refine hK v' w' ⟨?_, fun s hs => ?_⟩ hgr
      · rw [List.length_append, List.map_append]; exact ho
      · rcases List.mem_append.1 hs with h | h
        · exact hown.2 s h
        · obtain ⟨j, hj⟩ := List.getElem?_of_mem h
          obtain ⟨_, _, _, _, hb⟩ := hcs j s hj
          exact hb
theorem OS.any {B : Nat} {v : Value} {xs : List ByteArray} {W : World} (h : OS B W v xs) (hl : xs.length ≤ 4194304) : RS 1 RStr W 0 xs v := (h.read (by unfold maxLen; omega)).low RStr.lowers (Nat.zero_le _)
end Go.Proofs.YtlldfaniddbjaaaGreatDoor
namespace Go.Proofs.YtlldfaniddbjaaaGreatDoor
open Go.RowKit Gs
set_option linter.unusedVariables false
set_option maxRecDepth 100000
def OI (B : Nat) (W : World) (v : Value) (xs : List Int) : Prop := W.ownsRow B 3 1 v xs.length (xs.map fun x => Value.int .i64 x)
theorem OI_nil (B : Nat) (W : World) : OI B W (.slice none 0 0) [] := World.ownsRow_nil _ _ _ _
theorem OI.later {B : Nat} {v : Value} {xs : List Int} {W W' : World} (h : OI B W v xs) (hb : Below W.heap.size W W') : OI B W' v xs := by
  obtain ⟨h1, h2 | ⟨g, cap, cur, hv, hg, hc, rest⟩⟩ := h
  · exact ⟨h1, .inl h2⟩
  · exact ⟨h1, .inr ⟨g, cap, cur, hv, hg, (hb.block g (Array.getElem?_eq_some_iff.1 hc).1).trans hc, rest⟩⟩
theorem OI.alloc {B : Nat} {v : Value} {xs : List Int} {W : World} (h : OI B W v xs) (o : Obj) : OI B (W.alloc o) v xs := World.ownsRow.alloc h o
theorem OI.row {B : Nat} {v : Value} {xs : List Int} {W : World} (h : OI B W v xs) : ∀ j, v.ownBlock = some j → B ≤ j := fun j hj => (World.ownsRow.lt h j hj).1
theorem OI.shape {B : Nat} {v : Value} {xs : List Int} {W : World} (h : OI B W v xs) : ∃ a l c, v = .slice a l c := by
  rcases h.2 with ⟨rfl, _⟩ | ⟨g, cap, cur, rfl, _⟩
  · exact ⟨_, _, _, rfl⟩
  · exact ⟨_, _, _, rfl⟩
theorem OI.step {B : Nat} {v : Value} {xs : List Int} {W : World} {x : Int} (h : W.ownsRow B 3 1 v (xs.length + 1) ((xs.map fun x => Value.int .i64 x) ++ [.int .i64 x])) : OI B W v (xs ++ [x]) := by
  unfold OI
  rw [List.length_append, List.map_append]
  exact h
theorem OI.read {B : Nat} {v : Value} {xs : List Int} {W : World} (h : OI B W v xs) (hl : xs.length ≤ maxLen) : RS 1 RInt W B xs v := by
  have hc := fun g hg => World.ownsRow.cells h (g := g) hg
  rcases h.2 with ⟨rfl, hn⟩ | ⟨g, cap, cur, rfl, hb, hg, hlc, hm, _⟩
  · have : xs = [] := List.length_eq_zero_iff.1 hn
    subst this
    exact RS.nil _ _ _ _ _ _
  · refine ⟨_, _, rfl, hlc, hl, fun _ => ⟨g, 0, rfl, hb, fun i x hx => ?_⟩⟩
    refine ⟨[.int .i64 x], rfl, fun j y hj => ?_, rfl⟩
    have hj0 : j = 0 := by
      cases j with
      | zero => rfl
      | succ j => simp at hj
    subst hj0
    simp at hj
    subst hj
    have := hc g rfl i (.int .i64 x) (by rw [List.getElem?_map, hx]; rfl)
    rw [Addr.add_lit] at this
    simpa using this
theorem info3 : (Tryz.prog.info? 3).map (fun i => (i.zero, i.size, i.bytes)) = some (some (.int .i64 0), 1, 8) := by kernel_rfl
theorem newI (W : World) (x : Int) (g : Nat) (hg : g = W.heap.size) : ∀ j u, [Value.int .i64 x][j]? = some u → (W.alloc (.cells #[.int .i64 x] 3)).cell? ((⟨g, 0, none⟩ : Addr).add j) = some u := by
  intro j u h
  subst hg
  match j, h with
  | 0, h => simp at h; subst h; simp [Addr.add]
  | j + 1, h => simp at h
theorem oneI (x : Int) : ∀ u ∈ [Value.int .i64 x], u.oneCell' = true := by
  intro u hu; simp at hu; subst hu; rfl
theorem OI_start {W : World} {B M : Nat} (hM : W.heap.size = M) (h : B ≤ M) : OI B (W.alloc (.cells #[] 3)) (.slice (some ⟨M, 0, none⟩) 0 0) [] := by
  subst hM
  exact ⟨rfl, .inr ⟨W.heap.size, 0, #[], rfl, h, heap_alloc_new W _, Nat.le_refl _, Nat.zero_le _, rfl, rfl⟩⟩
end Go.Proofs.YtlldfaniddbjaaaGreatDoor
