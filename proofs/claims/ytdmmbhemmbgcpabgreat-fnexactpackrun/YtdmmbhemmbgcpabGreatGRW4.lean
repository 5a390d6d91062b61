/- Ports: slices.Grow of nothing, slices.Concat, ends, endsFit. -/
import Derived.Test.YtdmmbhemmbgcpabGreatGMX
import Derived.Test.YtdmmbhemmbgcpabGreatPD
import Derived.Test.YtdmmbhemmbgcpabGreatGRW2
namespace Go.Proofs.YtdmmbhemmbgcpabGreat
open Go Go.RowKit Gs
set_option linter.unusedVariables false
set_option linter.unusedSimpArgs false
set_option maxRecDepth 100000
def portC (p : Port) : List Value := [.string p.name, .int .i64 p.src]
theorem portC_len (p : Port) : (portC p).length = 2 := rfl
theorem portC_one (p : Port) : ∀ u ∈ portC p, u.oneCell' = true := by
  intro u hu
  simp [portC] at hu
  rcases hu with rfl | rfl <;> rfl
def portZ : Value := .agg #[.string ByteArray.empty, .int .i64 0]
theorem info58 : (Tryz.prog.info? 75).map (fun i => (i.zero, i.size, i.bytes)) = some (some portZ, 2, 24) := by kernel_rfl
/-- Ports in a row of one's own. -/
def OP (B : Nat) (W : World) (v : Value) (xs : List Port) : Prop := OW 75 2 portC B W v xs ∧ ∀ p ∈ xs, p.name.size ≤ maxLen
theorem OP.later {B : Nat} {v : Value} {xs : List Port} {W W' : World} (h : OP B W v xs) (hb : Below W.heap.size W W') : OP B W' v xs := ⟨h.1.later hb, h.2⟩
theorem OP_nil (B : Nat) (W : World) : OP B W (.slice none 0 0) [] := ⟨OW.nil, fun _ h => by cases h⟩
theorem OP.any {B : Nat} {v : Value} {xs : List Port} {W : World} (h : OP B W v xs) (hl : xs.length ≤ 4194304) : RS 2 RPort W 0 xs v := (h.1.read portC_len (fun x hx => ⟨rfl, h.2 x hx⟩) (by unfold maxLen; omega)).low RPort.lowers (Nat.zero_le _)
theorem rport_c {W : World} (x : Port) (u : List Value) (h : RPort W 0 x u) : u = portC x := h.1
theorem rs_names {W : World} {ys : List Port} {v : Value} (h : RS 2 RPort W 0 ys v) : ∀ p ∈ ys, p.name.size ≤ maxLen := by
  intro p hp
  obtain ⟨j, hj⟩ := List.getElem?_of_mem hp
  rcases h.open with ⟨rfl, _⟩ | ⟨_, _, _, _, _, _, _, hcs⟩
  · simp at hj
  · obtain ⟨u, _, _, _, hs⟩ := hcs j p hj
    exact hs
theorem wpAppP {ops : Array Oper} {rest : List Oper} {o : Oper} {a : Act} {Q : Exit → Act → World → Prop} {w : World} (hg : o.guard = none) (s x : Operand) (hop : o.op = Op.call { callee := Callee.builtin Builtin.append, args := #[s, x], argTypes := #[34, 34] })
    (B : Nat) (v : Value) (xs : List Port) (hs : a.eval s = v) (hown : OP B w v xs) (xv : Value) (ys : List Port) (hx : a.eval x = xv) (hr : RS 2 RPort w 0 ys xv) (hlen : xs.length + ys.length ≤ 4194304) (hB : B ≤ w.heap.size)
    (hK : ∀ v' w', OP B w' v' (xs ++ ys) → w.grownBy w' v.ownBlock → wpList Tryz.prog ops Q rest (a.put o.dst v') w') : wpList Tryz.prog ops Q (o :: rest) a w :=
  wpAppW portZ Tryz.underlying34 info58 rfl (by decide) (by decide) portC_len portC_one hg s x hop B v xs hs hown.1 xv ys rport_c hx hr hlen hB (fun v' w' h1 h2 => hK v' w' ⟨h1, fun p hp => by
    rcases List.mem_append.1 hp with h | h
    · exact hown.2 p h
    · exact rs_names hr p h⟩ h2)
set_option maxHeartbeats 1600000 in
theorem iGrowP (n : Nat) (w : World) (hn : n ≤ 4194304) : Calls Tryz.prog 109 #[.slice none 0 0, .int .i64 (n : Int)] w fun e w' => (∃ v', e = .returned v' ∧ OP w.heap.size w' v' []) ∧ Below w.heap.size w w' := by
  obtain ⟨i0, hi, hz0, hz1, hz2⟩ := info_parts info58
  by_cases h0 : n = 0
  · subst h0
    go_enter Tryz.func109, Tryz.ntmps109
    go_wp2
    exact bodyPost_ret (v := .slice none 0 0) (by simp [results, Tryz.results109, go_sem]) rfl ⟨⟨_, rfl, OP_nil _ _⟩, brf _⟩
  · have hrun := fun ty => Lib.run_append_nil_zeros (P := Tryz.prog) w 34 3 ty 75 i0 portZ .i64 .i64 Tryz.underlying34 Tryz.underlying3 hi hz0 n (by omega) (by omega) (by omega) (by rw [hz2]; omega)
    obtain ⟨C, hC⟩ : ∃ C, grownCap w n 0 75 = C := ⟨_, rfl⟩
    have hC1 : n ≤ C := by rw [← hC]; exact grownCap_ge w _ _ _
    have hC2 : C ≤ maxLen := by rw [← hC]; exact grownCap_le_maxLen w _ _ _ (by unfold maxLen; omega)
    rw [hC] at hrun
    have HS := hide (show (Builtin.zeroCells (Value.cells portZ) n ++ Builtin.zeroCells (Value.cells portZ) (C - n)).size = C * 2 by simp [size_zeroCells, Value.cells, portZ]; omega)
    generalize Builtin.zeroCells (Value.cells portZ) n ++ Builtin.zeroCells (Value.cells portZ) (C - n) = M at hrun HS
    have HC2 := hide hC2
    have hC3 : C ≤ 9223372036854775807 := by unfold maxLen at hC2; omega
    have hp : (0 : Int) < (n : Int) := by omega
    clear hi hz0 hz1 hz2 hC hC2
    go_enter Tryz.func109, Tryz.ntmps109
    go_wp2_with (first | (at_builtin; refine Lib.wpList_append_run _ rfl _ _ 34 3 rfl _ _ rfl rfl _ _ (hrun _) ?_))
    refine bodyPost_ret (v := .slice (some ⟨w.heap.size, 0, none⟩) 0 C) (by simp [results, Tryz.results109, go_sem]) rfl ⟨⟨_, rfl, ?_⟩, bal (bdr (brf w)) _⟩
    refine ⟨World.ownsRow_made (w := w.drew) M C (Nat.le_refl _) (unhide HC2) (unhide HS), fun _ h => by cases h⟩
set_option maxHeartbeats 3200000 in
theorem iConcatP (xss : List (List Port)) (v : Value) (w : World) (hn : xss.length ≤ 1048576) (hl : (xss.map List.length).sum ≤ 4194304) (hr : RS 1 (RL 2 RPort) w 0 xss v) :
    Calls Tryz.prog 103 #[v] w fun e w' => (∃ v', e = .returned v' ∧ OP w.heap.size w' v' xss.flatten) ∧ Below w.heap.size w w' := by
  rcases hr.open with ⟨rfl, a, c, rfl⟩ | ⟨b, o, c, rfl, hc, hnm, _, hcs⟩
  · clear hr
    go_enter Tryz.func103, Tryz.ntmps103
    go_wp2
    refine wp_loop_rounds 1 ?_
    rw [rounds_succ]
    go_wp2_with (first | (go_at_call 109; refine (iGrowP 0 _ (by omega)).mono ?_; rintro e W1 ⟨⟨v1, rfl, ho⟩, hb1⟩; have HO := hide ho; have HB := hide hb1; clear ho hb1))
    refine wp_loop_rounds 1 ?_
    rw [rounds_succ]
    go_wp2
    exact bodyPost_ret (v := v1) (by simp [results, Tryz.results103, go_sem]) rfl ⟨⟨_, rfl, unhide HO⟩, unhide HB⟩
  · have HC := hide hcs
    clear hcs hr hnm
    go_enter Tryz.func103, Tryz.ntmps103
    go_wp2
    go_loop [3, 11] (fun s i => ∃ k : Nat, k ≤ xss.length ∧ i = .int .i64 k ∧ s = .int .i64 ((((xss.take k).map List.length).sum : Nat) : Int)) (fun s i => xss.length - (intOf i).toNat)
    case atStart => exact ⟨0, Nat.zero_le _, rfl, rfl⟩
    case round =>
      obtain ⟨k, hk, rfl, rfl⟩ := hrel
      by_cases hlt : k < xss.length
      · have hx : xss[k]? = some xss[k] := List.getElem?_eq_getElem hlt
        generalize xss[k] = x at hx
        have hst := sum_take xss k x hx
        have hle := sum_le xss (k + 1)
        obtain ⟨u, hul, hat, ve, rfl, hve⟩ := unhide HC k x hx
        obtain ⟨ae, ce, rfl⟩ := hve.slice
        have k0 := hat.get (j := 0) rfl
        simp only [Nat.add_zero, Nat.mul_one] at k0
        clear hat hul HC hve
        generalize hS : ((xss.take k).map List.length).sum = S at *
        obtain ⟨S2, hS2⟩ : ∃ S2 : Nat, S2 = S + x.length := ⟨_, rfl⟩
        have q1 : (S : Int) + (x.length : Int) = (S2 : Int) := by omega
        have q2 : ¬ ((S2 : Int) < 0) := by omega
        have HH := hide hst
        have HH2 := hide hS2
        have HS2 : Hid (S2 ≤ 4194304) := hide (by omega)
        have hS3 : S2 ≤ 4194304 := by omega
        clear hst hS2 hS hle
        go_wp2
        go_round
        case rel => exact ⟨k + 1, by omega, by go_num, by rw [unhide HH, ← unhide HH2]⟩
        case measure => simp [intOf]; omega
      · obtain rfl : k = xss.length := by omega
        have ht : ((xss.take xss.length).map List.length).sum = (xss.map List.length).sum := by rw [List.take_of_length_le (Nat.le_refl _)]
        rw [ht]
        clear ht
        have HL := hide hl
        go_wp2_with (first | (go_at_call 109; refine (iGrowP _ _ (unhide HL)).mono ?_; rintro e W1 ⟨⟨v1, rfl, ho⟩, hb1⟩; have HO := hide ho; have HB := hide hb1; clear ho hb1))
        go_loopw [6, 27] (fun r i wr => ∃ k : Nat, k ≤ xss.length ∧ i = .int .i64 k ∧ OP w.heap.size wr r (xss.take k).flatten ∧ Below w.heap.size w wr) (fun r i wr => xss.length - (intOf i).toNat)
        case atStart => exact ⟨0, Nat.zero_le _, rfl, unhide HO, unhide HB⟩
        case round =>
          clear HO HB
          obtain ⟨k, hk, rfl, hown, hb⟩ := hrel
          have HO := hide hown
          have HB := hide hb
          by_cases hlt : k < xss.length
          · have hx : xss[k]? = some xss[k] := List.getElem?_eq_getElem hlt
            generalize xss[k] = x at hx
            have HST := hide (flat_take xss k x hx)
            have HLE := hide (show (xss.take k).flatten.length + x.length ≤ 4194304 by
              have h1 := sum_take xss k x hx
              have h2 := sum_le xss (k + 1)
              have h3 := flat_len (xss.take k)
              omega)
            obtain ⟨u, hul, hat, ve, rfl, hve⟩ := unhide HC k x hx
            have HV := hide (hve.later RPort.keeps hb)
            obtain ⟨ae, ce, rfl⟩ := hve.slice
            have k0 := cell_later hb (hat.get (j := 0) rfl)
            simp only [Nat.add_zero, Nat.mul_one] at k0
            have HSZ := hide hb.size
            clear hat hul HC hve hown hb hx
            go_wp2_with (first | (at_builtin; refine wpAppP rfl _ _ rfl w.heap.size _ _ rfl (unhide HO) _ x rfl (unhide HV) (unhide HLE) (unhide HSZ) ?_; intro v2 w2 ho2 hg2))
            have R2 := below_grown (unhide HB) hg2 (unhide HSZ) ((unhide HO).1.row)
            go_roundw
            case rel => exact ⟨k + 1, by omega, by go_num, by rw [unhide HST]; exact ho2, R2⟩
            case measure => simp [intOf]; omega
          · obtain rfl : k = xss.length := by omega
            have ht : (xss.take xss.length).flatten = xss.flatten := by rw [List.take_of_length_le (Nat.le_refl _)]
            rw [ht] at HO
            clear hown hb HC ht
            go_wp2
            exact bodyPost_ret (v := u6) (by simp [results, Tryz.results103, go_sem]) rfl ⟨⟨_, rfl, unhide HO⟩, unhide HB⟩


theorem ports_two {W : World} {xs ys : List Port} {v u : Value} (b : Nat) (hx : RS 2 RPort W 0 xs v) (hy : RS 2 RPort W 0 ys u) (h0 : W.cell? ⟨b, 0, none⟩ = some v) (h1 : W.cell? ⟨b, 1, none⟩ = some u) : RS 1 (RL 2 RPort) W 0 [xs, ys] (.slice (some ⟨b, 0, none⟩) 2 2) := by
  refine ⟨some ⟨b, 0, none⟩, 2, rfl, by simp, by unfold maxLen; simp, fun _ => ⟨b, 0, rfl, Nat.zero_le _, fun i x hx' => ?_⟩⟩
  match i, hx' with
  | 0, h => simp at h; subst h; exact ⟨[v], rfl, fun j y hj => by cases j with | zero => (simp at hj; subst hj; simpa using h0) | succ j => simp at hj, v, rfl, hx⟩
  | 1, h => simp at h; subst h; exact ⟨[u], rfl, fun j y hj => by cases j with | zero => (simp at hj; subst hj; simpa using h1) | succ j => simp at hj, u, rfl, hy⟩
  | i + 2, h => simp at h
set_option maxHeartbeats 3200000 in
theorem iEnds (s0 s1 s2 s3 s4 : Option Addr) (l0 l1 l2 l3 l4 c0 c1 c2 c3 c4 : Nat) (xs3 xs4 : List Port) (w : World) (hl3 : xs3.length ≤ 1048576) (hl4 : xs4.length ≤ 1048576) (h3 : RS 2 RPort w 0 xs3 (.slice s3 l3 c3)) (h4 : RS 2 RPort w 0 xs4 (.slice s4 l4 c4)) :
    Calls Tryz.prog 83 #[.agg #[.slice s0 l0 c0, .slice s1 l1 c1, .slice s2 l2 c2, .slice s3 l3 c3, .slice s4 l4 c4]] w fun e w' => (∃ v', e = .returned v' ∧ OP w.heap.size w' v' (xs3 ++ xs4)) ∧ Below w.heap.size w w' := by
  have HCC : Hid (∀ V b, Below w.heap.size w V → w.heap.size ≤ V.heap.size → V.cell? ⟨b, 0, none⟩ = some (.slice s3 l3 c3) → V.cell? ⟨b, 1, none⟩ = some (.slice s4 l4 c4) → Calls Tryz.prog 103 #[.slice (some ⟨b, 0, none⟩) 2 2] V fun e w' => (∃ v', e = .returned v' ∧ OP w.heap.size w' v' (xs3 ++ xs4)) ∧ Below w.heap.size w w') := hide (fun V b hV hsz h0 h1 => by
    refine (iConcatP [xs3, xs4] _ V (by simp) (by simp; omega) (ports_two b (h3.later RPort.keeps hV) (h4.later RPort.keeps hV) h0 h1)).mono ?_
    rintro e W ⟨⟨v', rfl, ho⟩, hb⟩
    refine ⟨⟨v', rfl, ?_⟩, btr hV hb⟩
    simp at ho
    refine ⟨⟨ho.1.1, ?_⟩, ho.2⟩
    rcases ho.1.2 with h | ⟨g, cap, cur, h1, h2, h3⟩
    · exact .inl h
    · exact .inr ⟨g, cap, cur, h1, by omega, h3⟩)
  clear h3 h4
  go_enter Tryz.func83, Tryz.ntmps83
  go_wp2_with fail
  refine (unhide HCC _ _ (bal (bal (brf w) _) _) (by simp; omega) (by simp) (by simp)).mono ?_
  rintro e W1 ⟨⟨v1, rfl, ho⟩, hb1⟩
  have HO := hide ho
  have HB := hide hb1
  clear ho hb1
  go_wp2
  exact bodyPost_ret (v := v1) (by simp [results, Tryz.results83, go_sem]) rfl ⟨⟨_, rfl, unhide HO⟩, unhide HB⟩
end Go.Proofs.YtdmmbhemmbgcpabGreat
namespace Go.Proofs.YtdmmbhemmbgcpabGreat
open Go Go.RowKit
set_option linter.unusedVariables false
section
variable {P : Program} {ops : Array Oper} {a0 : Act} {F : Nat → Value → Prop} {w0 : World} {n : Nat} {E : World → Prop}
abbrev JE (w0 : World) (n : Nat) (E : World → Prop) : Array Bool → World → Prop := fun l w => (l.getD n false = false → Below w0.heap.size w0 w) ∧ (l.getD n false = true → E w)
theorem JE.start {w0 w : World} {n m : Nat} {E : World → Prop} (h : Below w0.heap.size w0 w) : JE w0 n E (Array.replicate m false) w :=
  ⟨fun _ => h, fun e => by
    exfalso
    by_cases hm : n < m
    · simp [Array.getD, hm] at e
    · simp [Array.getD, hm] at e⟩
theorem lt_of_undone {l : Array Bool} {k : Nat} (h : l.getD k true = false) : k < l.size := by
  by_cases hk : k < l.size
  · exact hk
  · simp [Array.getD, hk] at h
theorem JE.low {l : Array Bool} {a : Act} {w : World} (hp : PA ops (GF F) (JE w0 n E) a0 l a w) {k : Nat} (hn : (ops[n]?).any (fun o => onB o.after k) = true) (hu : l.getD k true = false) : l.getD n false = false := by
  cases e : l.getD n false with
  | false => rfl
  | true =>
    exfalso
    cases ho : ops[n]? with
    | none => rw [ho] at hn; simp at hn
    | some o =>
      rw [ho] at hn
      have hd := onB_spec (by simpa using hn) (hp.down n o ho e)
      rw [notDoneB hu] at hd
      cases hd
theorem JE.step {l : Array Bool} {w' : World} {k : Nat} (hne : k ≠ n) (hu : l.getD k true = false) (hl : l.getD n false = false) (hb : Below w0.heap.size w0 w') : JE w0 n E (l.setIfInBounds k true) w' := by
  have e : (l.setIfInBounds k true).getD n false = false := by rw [set_ite (lt_of_undone hu), if_neg (fun e => hne e.symm), hl]
  exact ⟨fun _ => hb, fun h => by rw [e] at h; cases h⟩
theorem se_val {k : Nat} {o : Oper} (hne : k ≠ n) (hn : (ops[n]?).any (fun o => onB o.after k) = true) (hg : o.guard = none) (h : ∀ l a w, PA ops (GF F) (JE w0 n E) a0 l a w → Below w0.heap.size w0 w → (∀ e ∈ o.after, Region.binds .any e = true → l.getD e.on false = true) → ∃ x, (execOp a.eval o).run P w = .ok (.value x) w ∧ F k x) : Stp P ops (GF F) (JE w0 n E) a0 k o := by
  intro l a w hp hu ha
  have hl := JE.low hp hn hu
  have hb := hp.j.1 hl
  obtain ⟨x, hr, hf⟩ := h l a w hp hb ha
  unfold opW
  rw [if_pos (wanted_none hg)]
  exact .inl ⟨x, w, hr, x, rfl, JE.step hne hu hl hb, hf, fun _ _ _ _ h => h⟩
theorem se_valg {k : Nat} {o : Oper} {g : Nat} {want c : Bool} {d : Tmp} (hne : k ≠ n) (hn : (ops[n]?).any (fun o => onB o.after k) = true) (hg : o.guard = some (g, want)) (hd : (ops[g]?).bind (·.dst) = some d) (hnt : d < a0.tmps.size) (he : onB o.after g = true) (hc : ∀ v, F g v → v = .bool c) (hno : c ≠ want → F k undef)
    (h : ∀ l a w, PA ops (GF F) (JE w0 n E) a0 l a w → Below w0.heap.size w0 w → (∀ e ∈ o.after, Region.binds .any e = true → l.getD e.on false = true) → c = want → ∃ x, (execOp a.eval o).run P w = .ok (.value x) w ∧ F k x) : Stp P ops (GF F) (JE w0 n E) a0 k o := by
  intro l a w hp hu ha
  have hl := JE.low hp hn hu
  have hb := hp.j.1 hl
  have hv := hc _ (kn hp ha d g hd he)
  have hw := wanted_some (ops := ops) hg hd (by rw [hp.nt]; exact hnt) hv
  unfold opW
  by_cases e : c = want
  · obtain ⟨x, hr, hf⟩ := h l a w hp hb ha e
    rw [if_pos (by rw [hw, e]; simp)]
    exact .inl ⟨x, w, hr, x, rfl, JE.step hne hu hl hb, hf, fun _ _ _ _ h => h⟩
  · rw [if_neg (by rw [hw]; simpa using e)]
    exact ⟨undef, rfl, JE.step hne hu hl hb, hno e, fun _ _ _ _ h => h⟩
theorem se_call {k : Nat} {o : Oper} {f : FuncId} (hne : k ≠ n) (hn : (ops[n]?).any (fun o => onB o.after k) = true) (hg : o.guard = none) (h : ∀ l a w, PA ops (GF F) (JE w0 n E) a0 l a w → Below w0.heap.size w0 w → (∀ e ∈ o.after, Region.binds .any e = true → l.getD e.on false = true) → ∃ args, (execOp a.eval o).run P w = .ok (.enter f args) w ∧ Calls P f args w fun e w' => ∃ x, e = .returned x ∧ F k x ∧ Below w.heap.size w w') : Stp P ops (GF F) (JE w0 n E) a0 k o := by
  intro l a w hp hu ha
  have hl := JE.low hp hn hu
  have hb := hp.j.1 hl
  obtain ⟨args, hr, hc⟩ := h l a w hp hb ha
  unfold opW
  rw [if_pos (wanted_none hg)]
  refine .inr (.inr ⟨f, args, w, hr, Calls.mono hc ?_⟩)
  rintro e w' ⟨x, rfl, hf, hb'⟩
  exact ⟨x, rfl, x, rfl, JE.step hne hu hl (btr hb hb'), hf, fun _ _ _ _ h => h⟩
theorem se_callg {k : Nat} {o : Oper} {f : FuncId} {g : Nat} {want c : Bool} {d : Tmp} (hne : k ≠ n) (hn : (ops[n]?).any (fun o => onB o.after k) = true) (hg : o.guard = some (g, want)) (hd : (ops[g]?).bind (·.dst) = some d) (hnt : d < a0.tmps.size) (he : onB o.after g = true) (hc : ∀ v, F g v → v = .bool c) (hno : c ≠ want → F k undef)
    (h : ∀ l a w, PA ops (GF F) (JE w0 n E) a0 l a w → Below w0.heap.size w0 w → (∀ e ∈ o.after, Region.binds .any e = true → l.getD e.on false = true) → c = want → ∃ args, (execOp a.eval o).run P w = .ok (.enter f args) w ∧ Calls P f args w fun e w' => ∃ x, e = .returned x ∧ F k x ∧ Below w.heap.size w w') : Stp P ops (GF F) (JE w0 n E) a0 k o := by
  intro l a w hp hu ha
  have hl := JE.low hp hn hu
  have hb := hp.j.1 hl
  have hv := hc _ (kn hp ha d g hd he)
  have hw := wanted_some (ops := ops) hg hd (by rw [hp.nt]; exact hnt) hv
  unfold opW
  by_cases e : c = want
  · obtain ⟨args, hr, hcl⟩ := h l a w hp hb ha e
    rw [if_pos (by rw [hw, e]; simp)]
    refine .inr (.inr ⟨f, args, w, hr, Calls.mono hcl ?_⟩)
    rintro e w' ⟨x, rfl, hf, hb'⟩
    exact ⟨x, rfl, x, rfl, JE.step hne hu hl (btr hb hb'), hf, fun _ _ _ _ h => h⟩
  · rw [if_neg (by rw [hw]; simpa using e)]
    exact ⟨undef, rfl, JE.step hne hu hl hb, hno e, fun _ _ _ _ h => h⟩
theorem se_last {o : Oper} (hg : o.guard = none) (h : ∀ l a w, PA ops (GF F) (JE w0 n E) a0 l a w → Below w0.heap.size w0 w → (∀ e ∈ o.after, Region.binds .any e = true → l.getD e.on false = true) → ∃ w', (execOp a.eval o).run P w = .ok .skip w' ∧ E w') (hf : F n undef) : Stp P ops (GF F) (JE w0 n E) a0 n o := by
  intro l a w hp hu ha
  have hb := hp.j.1 (notDoneB hu)
  obtain ⟨w', hr, hE⟩ := h l a w hp hb ha
  unfold opW
  rw [if_pos (wanted_none hg)]
  have e : (l.setIfInBounds n true).getD n false = true := by rw [set_ite (lt_of_undone hu), if_pos rfl]
  exact .inr (.inl ⟨w', hr, undef, rfl, ⟨fun h => (by rw [e] at h; cases h), fun _ => hE⟩, hf, fun _ _ _ _ h => h⟩)
end
end Go.Proofs.YtdmmbhemmbgcpabGreat
