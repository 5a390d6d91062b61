/- instrFits of a look. -/
import Derived.Test.YtbpcomnneemolaaCK8
import Derived.Test.YtbpcomnneemolaaLC
import Derived.Deep.RegionHeld3
namespace Go.Proofs.Ytbpcomnneemolaa
open Go.RowKit Gs
set_option linter.unusedVariables false
set_option maxRecDepth 100000
/-- Something of width wd that reads nothing. -/
def bareI (x : Instr) (wd : Int) : Bool := decide (x.width = wd) && !x.signed && x.bits.toList.isEmpty
def inI (c : Code) (x : Instr) : Bool := if 0 ≤ x.n then (match c.ins[x.n.toNat]? with | some p => bareI x p | none => false) else false
def regI (c : Code) (x : Instr) : Bool := if 0 ≤ x.n then (match c.inits[x.n.toNat]? with | some t => bareI x (t.size : Int) | none => false) else false
def tkN (x : Instr) : Nat := (takesOf x.op.toNat).toNat
/-- What instrFits answers. -/
def instrB (c : Code) (ws : List Int) (x : Instr) : Bool :=
  if 0 ≤ x.op ∧ x.op < 35 then (if 0 ≤ x.dst ∧ x.dst < (ws.length : Int) then (if readB ws (tkN x) [x.a, x.b, x.c] = true then (if x.op = 33 then inI c x else if x.op = 34 then regI c x else likeB x.op x.width x.n x.signed x.bits (kidW ws (tkN x) [x.a, x.b, x.c])) else false) else false) else false
theorem iPlaceB (n c : Int) (b : Bool) (h : (decide (0 ≤ n) && decide (n < c)) = b) (w : World) : Calls Try.prog 33 #[.int .i64 n, .int .i64 c] w fun e w' => e = .returned (.bool b) ∧ w' = w := by
  rw [← h]; exact iPlace n c w
theorem pl_no {n c : Int} (h : ¬ (0 ≤ n ∧ n < c)) : (decide (0 ≤ n) && decide (n < c)) = false := by
  rw [Bool.and_eq_false_iff, decide_eq_false_iff_not, decide_eq_false_iff_not]; omega
theorem pl_yes {n c : Int} (h : 0 ≤ n ∧ n < c) : (decide (0 ≤ n) && decide (n < c)) = true := by
  rw [decide_eq_true h.1, decide_eq_true h.2]; rfl
set_option maxHeartbeats 16000000 in
theorem iInstr_no1 (W : World) (b : Nat) (x : Instr) (hp : ¬ (0 ≤ x.op ∧ x.op < 35)) :
    Calls Try.prog 43 #[.pointer (some ⟨b, 0, none⟩), .agg (IV x)] W fun e w' => e = .returned (.bool false) ∧ Below W.heap.size W w' := by
  have PF := hide (fun V => iPlaceB x.op 35 false (pl_no hp) V)
  clear hp
  unfold IV
  generalize x.op = z0 at *
  go_enter Try.func43, Try.ntmps43
  go_wp2
  go_quiet (first | (go_at_call 33; exact Calls.quiet_of_same (unhide PF _)))
  go_wp2
  go_ret
  exact ⟨rfl, bdn (bal (brf W) _)⟩
set_option maxHeartbeats 16000000 in
theorem iInstr_no2 (W : World) (b : Nat) (L : Int) (h0 : W.cell? ⟨b, 0, none⟩ = some (.int .i64 L)) (x : Instr) (hp : 0 ≤ x.op ∧ x.op < 35) (hd : ¬ (0 ≤ x.dst ∧ x.dst < L)) :
    Calls Try.prog 43 #[.pointer (some ⟨b, 0, none⟩), .agg (IV x)] W fun e w' => e = .returned (.bool false) ∧ Below W.heap.size W w' := by
  have PT := hide (fun V => iPlaceB x.op 35 true (pl_yes hp) V)
  have PF := hide (fun V => iPlaceB x.dst L false (pl_no hd) V)
  have hbs : b < W.heap.size := World.block_lt_of_cell? W _ h0
  clear hp hd
  unfold IV
  generalize x.op = z0 at *
  generalize x.dst = z1 at *
  go_enter Try.func43, Try.ntmps43
  go_wp2
  go_quiet (first | (go_at_call 33; with_reducible exact Calls.quiet_of_same (unhide PT _)) | (go_at_call 33; with_reducible exact Calls.quiet_of_same (unhide PF _)))
  go_wp2
  go_ret
  exact ⟨rfl, bdn (bal (brf W) _)⟩
abbrev LkH (W : World) (b : Nat) (c : Code) (v1 v2 v4 v5 v6 v7 v8 : Value) (wb : Nat) (ws : List Int) : Prop := Lk W b c v1 v2 v4 v5 v6 v7 v8 wb ws
set_option maxHeartbeats 16000000 in
theorem iInstr_no3 (W : World) (b : Nat) (c : Code) (v1 v2 v4 v5 v6 v7 v8 : Value) (wb : Nat) (ws : List Int) (h : Lk W b c v1 v2 v4 v5 v6 v7 v8 wb ws) (x : Instr) (hp0 : 0 ≤ x.op) (hp1 : x.op < 35) (hd : 0 ≤ x.dst ∧ x.dst < (ws.length : Int)) (hr : readB ws (tkN x) [x.a, x.b, x.c] = false) :
    Calls Try.prog 43 #[.pointer (some ⟨b, 0, none⟩), .agg (IV x)] W fun e w' => e = .returned (.bool false) ∧ Below W.heap.size W w' := by
  have PT := hide (fun V => iPlaceB x.op 35 true (pl_yes ⟨hp0, hp1⟩) V)
  have PD := hide (fun V => iPlaceB x.dst c.slots true (pl_yes (by rw [h.len]; exact hd)) V)
  obtain ⟨j, hj⟩ : ∃ j : Nat, x.op = (j : Int) := ⟨x.op.toNat, by omega⟩
  have hj35 : j < 35 := by omega
  obtain ⟨T, hT, hT3⟩ := takesOf_nat j
  have hTk : tkN x = T := by unfold tkN; rw [hj, Int.toNat_natCast, hT]; rfl
  have KD := hide (fun V (hb : Below W.heap.size W V) => iKids V b c v1 v2 v4 v5 v6 v7 v8 wb ws (h.later hb) x j hj hj35 T hT)
  rw [hTk] at hr
  have h0 := h.c0
  have hbs : b < W.heap.size := World.block_lt_of_cell? W _ h0
  rw [hr] at KD
  clear h hd hp0 hp1 hj hTk hr hj35
  unfold IV at KD ⊢
  go_enter Try.func43, Try.ntmps43
  go_wp2
  go_quiet (first | (go_at_call 33; with_reducible exact Calls.quiet_of_same (unhide PT _)) | (go_at_call 33; with_reducible exact Calls.quiet_of_same (unhide PD _)))
  go_wp2_with fail
  refine (unhide KD _ (bdn (bal (brf W) _))).mono ?_
  rintro e W1 ⟨⟨ka, kl, kc, rfl, _⟩, hb1⟩
  have HX := hide (btr (bdn (bal (brf W) _)) hb1)
  clear hb1
  go_wp2
  go_ret
  exact ⟨rfl, unhide HX⟩
end Go.Proofs.Ytbpcomnneemolaa
