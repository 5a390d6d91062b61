/- A region's plan whose facts speak of the world and last; slices that are built. -/
import Derived.Test.YtlldfaniddbjaaaGreatDoorGRW2
import Derived.Test.YtlldfaniddbjaaaGreatDoorGGS2
import Derived.Test.YtlldfaniddbjaaaGreatDoorGMX
import Derived.BigQuiet
namespace Go.Proofs.YtlldfaniddbjaaaGreatDoor
open Go Go.RowKit Gs
set_option linter.unusedVariables false
section
variable {P : Program} {ops : Array Oper} {a0 : Act} {F : Nat → World → Value → Prop} {w0 : World}
abbrev GW (F : Nat → World → Value → Prop) : Array Bool → Nat → World → Value → Prop := fun _ k w v => F k w v
def Lasts (F : Nat → World → Value → Prop) : Prop := ∀ k w w' v, Below w.heap.size w w' → F k w v → F k w' v
theorem sl_val {k : Nat} {o : Oper} (hg : o.guard = none) (h : ∀ l a w, PA ops (GW F) (JB w0) a0 l a w → (∀ e ∈ o.after, Region.binds .any e = true → l.getD e.on false = true) → ∃ x, (execOp a.eval o).run P w = .ok (.value x) w ∧ F k w x) : Stp P ops (GW F) (JB w0) a0 k o := by
  intro l a w hp hu ha
  obtain ⟨x, hr, hf⟩ := h l a w hp ha
  unfold opW
  rw [if_pos (wanted_none hg)]
  exact .inl ⟨x, w, hr, x, rfl, hp.j, hf, fun _ _ _ _ h => h⟩
theorem sl_new {k : Nat} {o : Oper} (hm : Lasts F) (hg : o.guard = none) (h : ∀ l a w, PA ops (GW F) (JB w0) a0 l a w → (∀ e ∈ o.after, Region.binds .any e = true → l.getD e.on false = true) → ∃ x ob, (execOp a.eval o).run P w = .ok (.value x) (w.alloc ob) ∧ F k (w.alloc ob) x) : Stp P ops (GW F) (JB w0) a0 k o := by
  intro l a w hp hu ha
  obtain ⟨x, ob, hr, hf⟩ := h l a w hp ha
  unfold opW
  rw [if_pos (wanted_none hg)]
  exact .inl ⟨x, _, hr, x, rfl, bal hp.j ob, hf, fun j _ _ _ h => hm j _ _ _ (bal (brf w) ob) h⟩
theorem sl_call {k : Nat} {o : Oper} {f : FuncId} (hm : Lasts F) (hg : o.guard = none) (h : ∀ l a w, PA ops (GW F) (JB w0) a0 l a w → (∀ e ∈ o.after, Region.binds .any e = true → l.getD e.on false = true) → ∃ args, (execOp a.eval o).run P w = .ok (.enter f args) w ∧ Calls P f args w fun e w' => ∃ x, e = .returned x ∧ F k w' x ∧ Below w.heap.size w w') : Stp P ops (GW F) (JB w0) a0 k o := by
  intro l a w hp hu ha
  obtain ⟨args, hr, hc⟩ := h l a w hp ha
  unfold opW
  rw [if_pos (wanted_none hg)]
  refine .inr (.inr ⟨f, args, w, hr, Calls.mono hc ?_⟩)
  rintro e w' ⟨x, rfl, hf, hb⟩
  exact ⟨x, rfl, x, rfl, btr hp.j hb, hf, fun j _ _ _ h => hm j _ _ _ hb h⟩
end
/-- A slice of slices that was built. -/
theorem RL_built {α : Type} {R : Rd α} (hR : Keeps R) (V : World) (t : TypeId) (xss : List (List α)) (vs : List Value) (hl : vs.length = xss.length) (hn : xss.length ≤ maxLen) (h : ∀ (i : Nat) x v, xss[i]? = some x → vs[i]? = some v → RS 1 R V 0 x v) :
    RS 1 (RL 1 R) (V.alloc (.cells vs.toArray t)) 0 xss (.slice (some ⟨V.heap.size, 0, none⟩) xss.length xss.length) := by
  refine ⟨_, _, rfl, Nat.le_refl _, hn, fun _ => ⟨V.heap.size, 0, rfl, Nat.zero_le _, fun i x hx => ?_⟩⟩
  have hi : i < vs.length := by rw [hl]; exact (List.getElem?_eq_some_iff.1 hx).1
  refine ⟨[vs[i]], rfl, fun j y hj => ?_, vs[i], rfl, (h i x vs[i] hx (List.getElem?_eq_getElem hi)).later hR (bal (brf V) _)⟩
  have hj0 : j = 0 := by
    cases j with
    | zero => rfl
    | succ j => simp at hj
  subst hj0
  simp at hj
  subst hj
  rw [World.cell?_alloc_new]
  simp [hi]
end Go.Proofs.YtlldfaniddbjaaaGreatDoor
namespace Go.Proofs.YtlldfaniddbjaaaGreatDoor
open Go Go.RowKit Gs
set_option linter.unusedVariables false
set_option linter.unusedSimpArgs false
set_option maxRecDepth 100000
/-- The counts of a packed design. -/
def countsN (n0 n1 n2 n3 n4 : Nat) : Bool := decide (n2 ≤ 512) && decide (n1 ≤ 8) && (decide (n0 ≤ 2048) && decide (n3 ≤ 2048) && decide (n4 ≤ 2048))
def countsA (a : Packed) : Bool := countsN a.ins.length a.clocks.length a.blocks.length a.outs.length a.checks.length
set_option maxHeartbeats 1600000 in
theorem iSources (a0 a2 : Option Addr) (n0 n2 c0 c2 : Nat) (v1 v3 v4 : Value) (w : World) (h0 : n0 ≤ 1048576) (h2 : n2 ≤ 1048576) :
    Calls Tryz.prog 33 #[.agg #[.slice a0 n0 c0, v1, .slice a2 n2 c2, v3, v4]] w fun e w' => e = .returned (.int .i64 ((n0 + n2 : Nat) : Int)) ∧ Below w.heap.size w w' := by
  obtain ⟨N, e1⟩ : ∃ N : Nat, n0 + n2 = N := ⟨_, rfl⟩
  rw [e1]
  have q : (n0 : Int) + (n2 : Int) = (N : Int) := by omega
  clear e1
  go_enter Tryz.func33, Tryz.ntmps33
  go_wp2
  exact bodyPost_ret (v := .int .i64 (N : Int)) (by simp [results, Tryz.results33, go_sem]) rfl ⟨rfl, bal (brf w) _⟩
set_option maxHeartbeats 3200000 in
theorem iCounts (s0 s1 s2 s3 s4 : Option Addr) (l0 l1 l2 l3 l4 c0 c1 c2 c3 c4 : Nat) (w : World) (h0 : l0 ≤ 1048576) (h1 : l1 ≤ 1048576) (h2 : l2 ≤ 1048576) (h3 : l3 ≤ 1048576) (h4 : l4 ≤ 1048576) :
    Calls Tryz.prog 83 #[.agg #[.slice s0 l0 c0, .slice s1 l1 c1, .slice s2 l2 c2, .slice s3 l3 c3, .slice s4 l4 c4]] w fun e w' => e = .returned (.bool (countsN l0 l1 l2 l3 l4)) ∧ Below w.heap.size w w' := by
  by_cases k3 : (l2 : Int) > 512
  · have HR : Hid (countsN l0 l1 l2 l3 l4 = false) := hide (by unfold countsN; rw [decide_eq_false (p := l2 ≤ 512) (by omega)]; rfl)
    go_enter Tryz.func83, Tryz.ntmps83
    go_wp2
    exact bodyPost_ret (v := .bool false) (by simp [results, Tryz.results83, go_sem]) rfl ⟨by rw [unhide HR], bal (brf w) _⟩
  · by_cases k1 : (l1 : Int) > 8
    · have HR : Hid (countsN l0 l1 l2 l3 l4 = false) := hide (by unfold countsN; rw [decide_eq_false (p := l1 ≤ 8) (by omega)]; simp)
      have k3' : decide ((512 : Int) < l2) = false := decide_eq_false (by omega)
      go_enter Tryz.func83, Tryz.ntmps83
      go_wp2
      exact bodyPost_ret (v := .bool false) (by simp [results, Tryz.results83, go_sem]) rfl ⟨by rw [unhide HR], bal (brf w) _⟩
    · have HR : Hid (countsN l0 l1 l2 l3 l4 = (decide (l0 ≤ 2048) && decide (l3 ≤ 2048) && decide (l4 ≤ 2048))) := hide (by
        unfold countsN
        rw [decide_eq_true (p := l1 ≤ 8) (by omega), decide_eq_true (p := l2 ≤ 512) (by omega)]
        rfl)
      have k3' : decide ((512 : Int) < l2) = false := decide_eq_false (by omega)
      have k1' : decide ((8 : Int) < l1) = false := decide_eq_false (by omega)
      generalize countsN l0 l1 l2 l3 l4 = RR at *
      go_enter Tryz.func83, Tryz.ntmps83
      go_wp2
      · exact bodyPost_ret (v := .bool (decide ((l4 : Int) ≤ 2048))) (by simp [results, Tryz.results83, go_sem]) rfl ⟨ret_bool (by rw [unhide HR, Bool.eq_iff_iff]; simp only [Bool.and_eq_true, decide_eq_true_eq]; split at h <;> omega), bal (brf w) _⟩
      · rename_i hA; rw [if_pos h] at hA; exact bodyPost_ret (v := .bool (decide ((l3 : Int) ≤ 2048))) (by simp [results, Tryz.results83, go_sem]) rfl ⟨ret_bool (by rw [unhide HR, Bool.eq_iff_iff]; simp only [Bool.and_eq_true, decide_eq_true_eq]; omega), bal (brf w) _⟩
      · rename_i hA; rw [if_neg h] at hA; exact bodyPost_ret (v := .bool (decide ((l0 : Int) ≤ 2048))) (by simp [results, Tryz.results83, go_sem]) rfl ⟨ret_bool (by rw [unhide HR, Bool.eq_iff_iff]; simp only [Bool.and_eq_true, decide_eq_true_eq]; omega), bal (brf w) _⟩
end Go.Proofs.YtlldfaniddbjaaaGreatDoor
namespace Go.Proofs.YtlldfaniddbjaaaGreatDoor
open Go Go.RowKit Gs
set_option linter.unusedVariables false
set_option linter.unusedSimpArgs false
set_option maxRecDepth 100000
set_option maxHeartbeats 3200000 in
theorem iIndex (xs : List Int) (x : Int) (v : Value) (w : World) (hl : xs.length ≤ 1048576) (hr : RS 1 RInt w 0 xs v) :
    Calls Tryz.prog 88 #[v, .int .i64 x] w fun e w' => (∃ r : Int, e = .returned (.int .i64 r) ∧ decide (0 ≤ r) = hasB xs x) ∧ w' = w := by
  rcases hr.open with ⟨rfl, a, c, rfl⟩ | ⟨b, o, c, rfl, hc, hn, _, hcs⟩
  · clear hr
    go_enter Tryz.func88, Tryz.ntmps88
    go_wp2
    refine wp_loop_rounds 1 ?_
    rw [rounds_succ]
    go_wp2
    exact bodyPost_ret (v := .int .i64 (-1)) (by simp [results, Tryz.results88, go_sem]) rfl ⟨⟨_, rfl, rfl⟩, rfl⟩
  · have HC := hide hcs
    clear hcs hr hc hn
    go_enter Tryz.func88, Tryz.ntmps88
    go_wp2
    go_loop [8] (fun i => ∃ k : Nat, k ≤ xs.length ∧ i = .int .i64 k ∧ hasB (xs.take k) x = false) (fun i => xs.length - (intOf i).toNat)
    case atStart => exact ⟨0, Nat.zero_le _, rfl, rfl⟩
    case round =>
      obtain ⟨k, hk, rfl, hall⟩ := hrel
      have HA := hide hall
      clear hall
      by_cases hlt : k < xs.length
      · have hx : xs[k]? = some xs[k] := List.getElem?_eq_getElem hlt
        generalize xs[k] = y at hx
        have HST := hide (hasB_take hx x)
        have HF : Hid (x = y → hasB xs x = true) := hide (fun h => hasB_mem (by rw [h]; exact hx))
        obtain ⟨u, hul, hat, hus⟩ := unhide HC k y hx
        subst hus
        have k0 := hat.get (j := 0) rfl
        simp only [Nat.add_zero, Nat.mul_one] at k0
        have i1 : (0 : Int) ≤ (k : Int) := by omega
        have i2 : (k : Int) < (xs.length : Int) := by omega
        clear hat hul HC hx
        by_cases e : x = y
        · have HT : Hid (hasB xs x = true) := hide (unhide HF e)
          clear HF HST
          subst e
          go_wp2
          exact bodyPost_ret (v := .int .i64 (k : Int)) (by simp [results, Tryz.results88, go_sem]) rfl ⟨⟨_, rfl, by rw [unhide HT]; exact decide_eq_true (by omega)⟩, rfl⟩
        · go_wp2
          go_round
          case rel => exact ⟨k + 1, by omega, by go_num, by rw [unhide HST, unhide HA]; simp [e]⟩
          case measure => simp [intOf]; omega
      · obtain rfl : k = xs.length := by omega
        clear HC
        go_wp2
        refine bodyPost_ret (v := .int .i64 (-1)) (by simp [results, Tryz.results88, go_sem]) rfl ⟨⟨_, rfl, ?_⟩, rfl⟩
        have h := unhide HA
        rw [List.take_of_length_le (Nat.le_refl _)] at h
        rw [h]; rfl
set_option maxHeartbeats 3200000 in
theorem iContains (xs : List Int) (x : Int) (v : Value) (w : World) (hl : xs.length ≤ 1048576) (hr : RS 1 RInt w 0 xs v) :
    Calls Tryz.prog 58 #[v, .int .i64 x] w fun e w' => e = .returned (.bool (hasB xs x)) ∧ w' = w := by
  have HI := hide (iIndex xs x v w hl hr)
  obtain ⟨a, c, rfl⟩ := hr.slice
  clear hr
  go_enter Tryz.func58, Tryz.ntmps58
  go_wp2_with fail
  refine (unhide HI).mono ?_
  rintro e W1 ⟨⟨r, rfl, h⟩, hw⟩
  have hw' := hw.symm
  subst hw'
  have HH := hide h
  clear h
  go_wp2_with fail
  exact bodyPost_ret (v := .bool (decide (0 ≤ r))) (by simp [results, Tryz.results58, go_sem]) rfl ⟨by rw [unhide HH], rfl⟩
/-- A slice's first elements. -/
theorem RS.take {α : Type} {k : Nat} {R : Rd α} {W : World} {xs : List α} {b o c n : Nat} (hs : RS k R W 0 xs (.slice (some ⟨b, o, none⟩) xs.length c)) (h : n ≤ xs.length) : RS k R W 0 (xs.take n) (.slice (some ⟨b, o, none⟩) n c) := by
  obtain ⟨a', c', hv, h1, h2, h3⟩ := hs
  injection hv with e1 e2 e3
  subst e1; subst e3
  refine ⟨_, _, by rw [List.length_take, Nat.min_eq_left h], by rw [List.length_take]; omega, by rw [List.length_take]; omega, fun hne => ?_⟩
  obtain ⟨b', o', hb, hB, hh⟩ := h3 (by intro e; rw [e] at hne; simp at hne)
  refine ⟨b', o', hb, hB, fun i x hx => hh i x ?_⟩
  rw [List.getElem?_take] at hx
  split at hx
  · exact hx
  · simp at hx
end Go.Proofs.YtlldfaniddbjaaaGreatDoor
namespace Go.Proofs.YtlldfaniddbjaaaGreatDoor
open Go Go.RowKit Gs
set_option linter.unusedVariables false
set_option linter.unusedSimpArgs false
set_option maxRecDepth 100000
theorem bdq {w W : World} {n : Nat} (h : Below w.heap.size w W) : Below w.heap.size w (W.drewN n) := below_drewN h n
set_option maxHeartbeats 16000000 in
theorem iFits (xs : List Int) (t : Int) (n : Nat) (v : Value) (w : World) (hl : xs.length ≤ 1048576) (hn : n ≤ 4194304) (hr : RS 1 RInt w 0 xs v) :
    Calls Tryz.prog 102 #[.agg #[v, .int .i64 t], .int .i64 (n : Int)] w fun e w' => e = .returned (.bool (lutB n ⟨xs, t⟩)) ∧ Below w.heap.size w w' := by
  have HR : Hid (lutB n ⟨xs, t⟩ = (decide (xs.length ≤ 4) && (decide (0 ≤ t) && (decide (t ≤ ((tmask xs.length : Nat) : Int)) && insB n xs)))) := hide rfl
  generalize lutB n ⟨xs, t⟩ = RR at *
  have HCO := hide (fun (k : Nat) (x : Int) (V : World) (hb : Below w.heap.size w V) (hk : k ≤ xs.length) (b o c : Nat) (hv : v = .slice (some ⟨b, o, none⟩) xs.length c) => iContains (xs.take k) x (.slice (some ⟨b, o, none⟩) k c) V (by rw [List.length_take]; omega) (RS.take (hv ▸ hr.later RInt.keeps hb) hk))
  have HOP := hide hr
  obtain ⟨a, c, rfl⟩ := hr.slice
  clear hr
  obtain ⟨L, hL⟩ : ∃ L, xs.length = L := ⟨_, rfl⟩
  have HLL := hide hL
  by_cases k4 : (4 : Int) < (xs.length : Int)
  · have HF : Hid (RR = false) := hide (by rw [unhide HR, decide_eq_false (p := xs.length ≤ 4) (by omega)]; rfl)
    rw [hL]
    have q4 : decide ((4 : Int) < (L : Int)) = true := decide_eq_true (by omega)
    clear hL HR HCO HOP
    go_enter Tryz.func102, Tryz.ntmps102
    go_wp2
    go_quiet (fail)
    go_wp2
    exact bodyPost_ret (v := .bool false) (by simp [results, Tryz.results102, go_sem]) rfl ⟨by rw [unhide HF], bdq (bal (brf w) _)⟩
  by_cases kt : t < 0
  · have HF : Hid (RR = false) := hide (by rw [unhide HR, decide_eq_false (p := 0 ≤ t) (by omega)]; simp)
    rw [hL]
    have q4 : decide ((4 : Int) < (L : Int)) = false := decide_eq_false (by omega)
    have qt : decide (t < 0) = true := decide_eq_true kt
    clear hL HR HCO HOP
    go_enter Tryz.func102, Tryz.ntmps102
    go_wp2
    go_quiet (fail)
    go_wp2
    exact bodyPost_ret (v := .bool false) (by simp [results, Tryz.results102, go_sem]) rfl ⟨by rw [unhide HF], bdq (bal (brf w) _)⟩
  have q4 : decide ((4 : Int) < (L : Int)) = false := decide_eq_false (by omega)
  have qt : decide (t < 0) = false := decide_eq_false kt
  obtain ⟨T, hT⟩ : ∃ T, tmask xs.length = T := ⟨_, rfl⟩
  have HMK := hide (fun V => by have h := iMask xs.length (by omega) V; rw [hT, hL] at h; exact h)
  have HTR := hide (tmask_lt (k := xs.length) (by omega))
  rw [hT] at HTR HR
  by_cases km : (T : Int) < t
  · have HF : Hid (RR = false) := hide (by rw [unhide HR, decide_eq_false (p := t ≤ (T : Int)) (by omega)]; simp)
    rw [hL]
    have qm : decide ((T : Int) < t) = true := decide_eq_true km
    clear hL HR HCO HOP hT HTR kt km k4
    go_enter Tryz.func102, Tryz.ntmps102
    go_wp2
    go_quiet ((go_at_call 125; exact Calls.quiet_of_same (unhide HMK _)))
    go_wp2
    exact bodyPost_ret (v := .bool false) (by simp [results, Tryz.results102, go_sem]) rfl ⟨by rw [unhide HF], bdq (bal (brf w) _)⟩
  have qm : decide ((T : Int) < t) = false := decide_eq_false km
  have HR2 : Hid (RR = upB (inAt n xs) L) := hide (by rw [unhide HR, decide_eq_true (p := xs.length ≤ 4) (by omega), decide_eq_true (p := 0 ≤ t) (by omega), decide_eq_true (p := t ≤ (T : Int)) (by omega)]; unfold insB; rw [hL]; rfl)
  have HK4 : Hid (L ≤ 4) := hide (by omega)
  rw [hL] at HCO
  rw [hL]
  clear hL HR hT HTR kt km k4
  go_enter Tryz.func102, Tryz.ntmps102
  go_wp2
  go_quiet ((go_at_call 125; exact Calls.quiet_of_same (unhide HMK _)))
  go_wp2
  obtain ⟨W, hW⟩ : ∃ W, W = (w.alloc (.cells #[.slice a L c, .int .i64 t] 151)).drewN nq := ⟨_, rfl⟩
  rw [← hW]
  have HB : Hid (Below w.heap.size w W) := hide (by rw [hW]; exact bdq (bal (brf w) _))
  have m0 : W.cell? ⟨w.heap.size, 0, none⟩ = some (.slice a L c) := by rw [hW]; exact (cell_later (bdq (brf (w.alloc _)) : Below (w.alloc (.cells #[.slice a L c, .int .i64 t] 151)).heap.size _ _) (by rw [World.cell?_alloc_new]; rfl))
  clear hW q4 qt qm
  go_loop [28] (fun i => ∃ k : Nat, k ≤ L ∧ i = .int .i64 k ∧ upB (inAt n xs) k = true) (fun i => L - (intOf i).toNat)
  case atStart => exact ⟨0, Nat.zero_le _, rfl, rfl⟩
  case round =>
    obtain ⟨k, hk, rfl, hall⟩ := hrel
    have HA := hide hall
    clear hall
    by_cases hlt : k < L
    · have hkx : k < xs.length := by have := unhide HLL; omega
      have hL4 := unhide HK4
      have hx : xs[k]? = some xs[k] := List.getElem?_eq_getElem hkx
      generalize xs[k] = x at hx
      have HAT := hide (inAt_at (n := n) hx)
      have HF : Hid (inAt n xs k = false → RR = false) := hide (fun h => by rw [unhide HR2]; exact upB_false hlt h)
      have HST := hide (upB_succ (inAt n xs) k)
      obtain ⟨b, o, rfl, k0, hcc⟩ : ∃ b o, a = some ⟨b, o, none⟩ ∧ W.cell? ⟨b, o + k, none⟩ = some (.int .i64 x) ∧ xs.length ≤ c := by
        rcases (unhide HOP).open with ⟨e, _⟩ | ⟨b, o, c', hv, hcc, _, _, hcs⟩
        · rw [e] at hx; simp at hx
        · injection hv with e1 e2 e3
          obtain ⟨u, hul, hat, hus⟩ := hcs k x hx
          subst hus
          refine ⟨b, o, e1, ?_, by omega⟩
          have := cell_later (unhide HB) (hat.get (j := 0) rfl)
          simpa using this
      have HCX := hide (unhide HCO k x W (unhide HB) (by have := unhide HLL; omega) b o c rfl)
      have i1 : (0 : Int) ≤ (k : Int) := by omega
      have i2 : (k : Int) < (L : Int) := by omega
      have i3 : (k : Int) ≤ (c : Int) := by have := unhide HLL; omega
      clear hx HOP HCO hkx hcc
      generalize inAt n xs k = IA at *
      generalize hp1 : plB x n = p1 at *
      have HP1 : Hid ((decide (0 ≤ x) && decide (x < (n : Int))) = p1) := hide hp1
      clear hp1
      generalize hasB (xs.take k) x = p2 at *
      cases p1
      · go_wp2_with fail
        refine (iPlace x n _).mono ?_
        rintro e W1 ⟨rfl, h⟩
        have h' := h.symm
        subst h'
        rw [unhide HP1]
        go_wp2_with fail
        exact bodyPost_ret (v := .bool false) (by simp [results, Tryz.results102, go_sem]) rfl ⟨by rw [unhide HF (by rw [unhide HAT]; rfl)], unhide HB⟩
      · cases p2
        · go_wp2_with fail
          refine (iPlace x n _).mono ?_
          rintro e W1 ⟨rfl, h⟩
          have h' := h.symm
          subst h'
          rw [unhide HP1]
          go_wp2_with fail
          refine (unhide HCX).mono ?_
          rintro e W1 ⟨rfl, h⟩
          have h' := h.symm
          subst h'
          go_wp2_with fail
          go_round
          case rel => exact ⟨k + 1, by omega, by go_num, by rw [unhide HST, unhide HA, unhide HAT]; rfl⟩
          case measure => simp [intOf]; omega
        · go_wp2_with fail
          refine (iPlace x n _).mono ?_
          rintro e W1 ⟨rfl, h⟩
          have h' := h.symm
          subst h'
          rw [unhide HP1]
          go_wp2_with fail
          refine (unhide HCX).mono ?_
          rintro e W1 ⟨rfl, h⟩
          have h' := h.symm
          subst h'
          go_wp2_with fail
          exact bodyPost_ret (v := .bool false) (by simp [results, Tryz.results102, go_sem]) rfl ⟨by rw [unhide HF (by rw [unhide HAT]; rfl)], unhide HB⟩
    · obtain rfl : k = L := by omega
      clear HOP HCO
      go_wp2
      exact bodyPost_ret (v := .bool true) (by simp [results, Tryz.results102, go_sem]) rfl ⟨by rw [unhide HR2, unhide HA], unhide HB⟩
end Go.Proofs.YtlldfaniddbjaaaGreatDoor
