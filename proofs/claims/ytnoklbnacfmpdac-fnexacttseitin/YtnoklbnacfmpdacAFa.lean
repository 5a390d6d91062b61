/- latchesFit. -/
import Derived.Test.YtnoklbnacfmpdacAC1
import Derived.Test.YtnoklbnacfmpdacAE
namespace Go.Proofs.Ytnoklbnacfmpdac
open Go Go.RowKit Gs
set_option linter.unusedVariables false
set_option linter.unusedSimpArgs false
set_option maxRecDepth 100000
def latchB (n1 : Nat) (l : Latch) : Bool := (decide (0 ≤ l.init) && decide (l.init < 2)) && (decide (0 ≤ l.clock) && decide (l.clock < (n1 : Int)))
set_option maxHeartbeats 16000000 in
theorem iLatches (s0 s1 s2 s3 s4 s5 : Option Addr) (l0 l1 l2 l3 l4 l5 c0 c1 c2 c3 c4 c5 : Nat) (xs : List Latch) (w : World) (hl1 : l1 ≤ 1048576) (hl2 : xs.length ≤ 1048576) (h2 : RS 4 RLatch w 0 xs (.slice s2 l2 c2)) :
    Calls Try.prog 52 #[.agg #[.slice s0 l0 c0, .slice s1 l1 c1, .slice s2 l2 c2, .slice s3 l3 c3, .slice s4 l4 c4, .slice s5 l5 c5]] w fun e w' => e = .returned (.bool (xs.all (latchB l1))) ∧ Below w.heap.size w w' := by
  have HC1 : Hid (∀ V, Below (w.alloc (.cells #[.slice s0 l0 c0, .slice s1 l1 c1, .slice s2 l2 c2, .slice s3 l3 c3, .slice s4 l4 c4, .slice s5 l5 c5] 36)).heap.size (w.alloc (.cells #[.slice s0 l0 c0, .slice s1 l1 c1, .slice s2 l2 c2, .slice s3 l3 c3, .slice s4 l4 c4, .slice s5 l5 c5] 36)) V → V.cell? ⟨w.heap.size, 1, none⟩ = some (.slice s1 l1 c1)) := hide (fun V hb => cell_later hb (by rw [World.cell?_alloc_new]; rfl))
  obtain ⟨W, hW⟩ : ∃ W, W = w.alloc (.cells #[.slice s0 l0 c0, .slice s1 l1 c1, .slice s2 l2 c2, .slice s3 l3 c3, .slice s4 l4 c4, .slice s5 l5 c5] 36) := ⟨_, rfl⟩
  have HW : Hid (Below w.heap.size w W) := hide (by rw [hW]; exact bal (brf w) _)
  rw [← hW] at HC1
  obtain ⟨hlen, hcs⟩ : l2 = xs.length ∧ (xs ≠ [] → ∃ b o, s2 = some ⟨b, o, none⟩ ∧ ∀ i x, xs[i]? = some x → ∃ u, u.length = 4 ∧ At w b (o + i * 4) u ∧ RLatch w 0 x u) := by
    obtain ⟨a, c, hv, _, _, h⟩ := h2
    injection hv with e1 e2 e3
    refine ⟨e2, fun hne => ?_⟩
    obtain ⟨b, o, ha, _, hh⟩ := h hne
    exact ⟨b, o, by rw [e1, ha], hh⟩
  subst hlen
  clear h2
  by_cases hne : xs = []
  · subst hne
    have HWb : Hid (Below w.heap.size w (w.alloc (.cells #[.slice s0 l0 c0, .slice s1 l1 c1, .slice s2 0 c2, .slice s3 l3 c3, .slice s4 l4 c4, .slice s5 l5 c5] 36))) := hide (bal (brf w) _)
    clear HC1 HW hW hcs
    go_enter Try.func52, Try.ntmps52
    go_wp2
    refine wp_loop_rounds 1 ?_
    rw [rounds_succ]
    go_wp2
    exact bodyPost_ret (v := .bool true) (by simp [results, Try.results52, go_sem]) rfl ⟨rfl, unhide HWb⟩
  · obtain ⟨b, o, rfl, hcx⟩ := hcs hne
    have HC := hide hcx
    clear hcs hcx hne
    go_enter Try.func52, Try.ntmps52
    go_wp2
    rw [← hW]
    go_loopw [8] (fun i wr => ∃ k : Nat, k ≤ xs.length ∧ i = .int .i64 k ∧ (xs.take k).all (latchB l1) = true ∧ Below W.heap.size W wr) (fun i wr => xs.length - (intOf i).toNat)
    case atStart => exact ⟨0, Nat.zero_le _, rfl, rfl, brf _⟩
    case round =>
      obtain ⟨k, hk, rfl, hall, hb⟩ := hrel
      have HA := hide hall
      clear hall hW
      by_cases hlt : k < xs.length
      · have hx : xs[k]? = some xs[k] := List.getElem?_eq_getElem hlt
        have hmem : xs[k] ∈ xs := List.getElem_mem hlt
        generalize xs[k] = x at hx hmem
        have HST := hide (show (xs.take (k + 1)).all (latchB l1) = ((xs.take k).all (latchB l1) && latchB l1 x) by rw [List.take_add_one, hx, List.all_append]; simp)
        have HF : Hid (latchB l1 x = false → xs.all (latchB l1) = false) := hide (fun h => by rw [← Bool.not_eq_true]; intro e; rw [List.all_eq_true.1 e x hmem] at h; cases h)
        obtain ⟨u, hul, hat, hus, hsz⟩ := unhide HC k x hx
        subst hus
        have k0 := cell_later (btr (unhide HW) hb) (hat.get (j := 0) rfl)
        have k1 := cell_later (btr (unhide HW) hb) (hat.get (j := 1) rfl)
        have k2 := cell_later (btr (unhide HW) hb) (hat.get (j := 2) rfl)
        have k3 := cell_later (btr (unhide HW) hb) (hat.get (j := 3) rfl)
        simp only [Nat.add_zero] at k0
        have m1 := cell_later (bal (brf wr) (.cells #[.string x.name, .int .i64 x.next, .int .i64 x.init, .int .i64 x.clock] 80)) (unhide HC1 wr hb)
        have HB := hide (bal (btr (unhide HW) hb) (.cells #[.string x.name, .int .i64 x.next, .int .i64 x.init, .int .i64 x.clock] 80))
        have HB2 := hide (bal hb (.cells #[.string x.name, .int .i64 x.next, .int .i64 x.init, .int .i64 x.clock] 80))
        clear hat hul HC hx hmem hb hsz
        have hdef : latchB l1 x = ((decide (0 ≤ x.init) && decide (x.init < 2)) && (decide (0 ≤ x.clock) && decide (x.clock < (l1 : Int)))) := rfl
        generalize latchB l1 x = B at *
        generalize x.name = nm at *
        generalize x.next = z1 at *
        generalize x.init = z2 at *
        generalize x.clock = z3 at *
        generalize hp1 : (decide (0 ≤ z2) && decide (z2 < 2)) = p1 at *
        generalize hp2 : (decide (0 ≤ z3) && decide (z3 < (l1 : Int))) = p2 at *
        have HD := hide hdef
        have HP1 := hide hp1
        have HP2 := hide hp2
        clear hdef hp1 hp2
        cases p1
        · go_wp2_with fail
          refine (iPlace z2 2 _).mono ?_
          rintro e W1 ⟨rfl, h⟩
          subst h
          rw [unhide HP1]
          go_wp2_with fail
          exact bodyPost_ret (v := .bool false) (by simp [results, Try.results52, go_sem]) rfl ⟨by rw [unhide HF (unhide HD)], unhide HB⟩
        · cases p2
          · go_wp2_with fail
            refine (iPlace z2 2 _).mono ?_
            rintro e W1 ⟨rfl, h⟩
            subst h
            rw [unhide HP1]
            go_wp2_with fail
            refine (iPlace z3 l1 _).mono ?_
            rintro e W2 ⟨rfl, h⟩
            subst h
            rw [unhide HP2]
            go_wp2_with fail
            exact bodyPost_ret (v := .bool false) (by simp [results, Try.results52, go_sem]) rfl ⟨by rw [unhide HF (unhide HD)], unhide HB⟩
          · go_wp2_with fail
            refine (iPlace z2 2 _).mono ?_
            rintro e W1 ⟨rfl, h⟩
            subst h
            rw [unhide HP1]
            go_wp2_with fail
            refine (iPlace z3 l1 _).mono ?_
            rintro e W2 ⟨rfl, h⟩
            subst h
            rw [unhide HP2]
            go_wp2_with fail
            go_roundw
            case rel => exact ⟨k + 1, by omega, by go_num, by rw [unhide HST, unhide HA, unhide HD]; rfl, unhide HB2⟩
            case measure => simp [intOf]; omega
      · obtain rfl : k = xs.length := by omega
        have HB := hide (btr (unhide HW) hb)
        clear HC hb
        go_wp2
        refine bodyPost_ret (v := .bool true) (by simp [results, Try.results52, go_sem]) rfl ⟨ret_bool ?_, unhide HB⟩
        have h := unhide HA
        rw [List.take_of_length_le (Nat.le_refl _)] at h
        exact h.symm
end Go.Proofs.Ytnoklbnacfmpdac
namespace Go.Proofs.Ytnoklbnacfmpdac
open Go Go.RowKit Gs
set_option linter.unusedVariables false
set_option linter.unusedSimpArgs false
set_option maxRecDepth 100000
/-- The ands: their variables are below their own. -/
def andsB (f : Nat) : List AndG → Bool
  | [] => true
  | x :: r => (litB x.a f && litB x.b f) && andsB (f + 1) r
theorem andsB_snoc (x : AndG) : ∀ (xs : List AndG) (f : Nat), andsB f (xs ++ [x]) = (andsB f xs && (litB x.a (f + xs.length) && litB x.b (f + xs.length)))
  | [], f => by simp [andsB]
  | y :: r, f => by
    rw [List.cons_append, andsB, andsB, andsB_snoc x r (f + 1), List.length_cons, show f + 1 + r.length = f + (r.length + 1) by omega]
    simp only [Bool.and_assoc]
theorem andsB_take (xs : List AndG) (f k : Nat) (x : AndG) (h : xs[k]? = some x) : andsB f (xs.take (k + 1)) = (andsB f (xs.take k) && (litB x.a (f + k) && litB x.b (f + k))) := by
  have hk : k < xs.length := (List.getElem?_eq_some_iff.1 h).1
  rw [List.take_add_one, h]
  show andsB f (xs.take k ++ [x]) = _
  rw [andsB_snoc, List.length_take, show min k xs.length = k by omega]
theorem andsB_mono (xs : List AndG) (f k : Nat) (h : andsB f (xs.take k) = false) : andsB f xs = false := by
  have key : ∀ (xs ys : List AndG) (f : Nat), andsB f xs = false → andsB f (xs ++ ys) = false := by
    intro xs
    induction xs with
    | nil => intro ys f h; simp [andsB] at h
    | cons x r ih =>
      intro ys f h
      rw [andsB] at h
      rw [List.cons_append, andsB]
      cases hx : (litB x.a f && litB x.b f)
      · rfl
      · rw [hx] at h
        rw [ih ys (f + 1) (by simpa using h)]
        rfl
  have := key (xs.take k) (xs.drop k) f h
  rwa [List.take_append_drop] at this
/-- What literalsFit answers. -/
def litsB (l0 : Nat) (xs2 : List Latch) (xs3 : List AndG) (xs4 xs5 : List Pin) : Bool := andsB (1 + l0 + xs2.length) xs3 && ((xs4.map (fun p : Pin => p.lit)) ++ ((xs5.map (fun p : Pin => p.lit)) ++ (xs2.map (fun l : Latch => l.next)))).all (fun e => litB e (1 + l0 + xs2.length + xs3.length))
set_option maxHeartbeats 16000000 in
theorem iLiterals (s0 s1 s2 s3 s4 s5 : Option Addr) (l0 l1 l2 l3 l4 l5 c0 c1 c2 c3 c4 c5 : Nat) (xs2 : List Latch) (xs : List AndG) (xs4 xs5 : List Pin) (w : World) (hl0 : l0 ≤ 1048576) (hl2 : xs2.length ≤ 1048576) (hl3 : xs.length ≤ 1048576) (hl4 : xs4.length ≤ 1048576) (hl5 : xs5.length ≤ 1048576) (h2 : RS 4 RLatch w 0 xs2 (.slice s2 l2 c2)) (h3 : RS 2 RAndG w 0 xs (.slice s3 l3 c3)) (h4 : RS 2 RPin w 0 xs4 (.slice s4 l4 c4)) (h5 : RS 2 RPin w 0 xs5 (.slice s5 l5 c5)) :
    Calls Try.prog 51 #[.agg #[.slice s0 l0 c0, .slice s1 l1 c1, .slice s2 l2 c2, .slice s3 l3 c3, .slice s4 l4 c4, .slice s5 l5 c5]] w fun e w' => e = .returned (.bool (litsB l0 xs2 xs xs4 xs5)) ∧ Below w.heap.size w w' := by
  have HC1 : Hid (∀ V, Below (w.alloc (.cells #[.slice s0 l0 c0, .slice s1 l1 c1, .slice s2 l2 c2, .slice s3 l3 c3, .slice s4 l4 c4, .slice s5 l5 c5] 36)).heap.size (w.alloc (.cells #[.slice s0 l0 c0, .slice s1 l1 c1, .slice s2 l2 c2, .slice s3 l3 c3, .slice s4 l4 c4, .slice s5 l5 c5] 36)) V → V.cell? ⟨w.heap.size, 0, none⟩ = some (.slice s0 l0 c0) ∧ V.cell? ⟨w.heap.size, 1, none⟩ = some (.slice s1 l1 c1) ∧ V.cell? ⟨w.heap.size, 2, none⟩ = some (.slice s2 l2 c2) ∧ V.cell? ⟨w.heap.size, 3, none⟩ = some (.slice s3 l3 c3) ∧ V.cell? ⟨w.heap.size, 4, none⟩ = some (.slice s4 l4 c4) ∧ V.cell? ⟨w.heap.size, 5, none⟩ = some (.slice s5 l5 c5)) := hide (fun V hb => ⟨cell_later hb (by rw [World.cell?_alloc_new]; rfl), cell_later hb (by rw [World.cell?_alloc_new]; rfl), cell_later hb (by rw [World.cell?_alloc_new]; rfl), cell_later hb (by rw [World.cell?_alloc_new]; rfl), cell_later hb (by rw [World.cell?_alloc_new]; rfl), cell_later hb (by rw [World.cell?_alloc_new]; rfl)⟩)
  obtain ⟨W, hW⟩ : ∃ W, W = w.alloc (.cells #[.slice s0 l0 c0, .slice s1 l1 c1, .slice s2 l2 c2, .slice s3 l3 c3, .slice s4 l4 c4, .slice s5 l5 c5] 36) := ⟨_, rfl⟩
  have HW : Hid (Below w.heap.size w W) := hide (by rw [hW]; exact bal (brf w) _)
  rw [← hW] at HC1
  have HE := hide (fun (V : World) (hb : Below w.heap.size w V) => iEnds s0 s1 s2 s3 s4 s5 l0 l1 l2 l3 l4 l5 c0 c1 c2 c3 c4 c5 xs2 xs4 xs5 V hl2 hl4 hl5 (h2.later RLatch.keeps hb) (h4.later RPin.keeps hb) (h5.later RPin.keeps hb))
  have hd2 : l2 = xs2.length := by
    obtain ⟨a, c, hv, _⟩ := h2
    injection hv with e1 e2 e3
  obtain ⟨FA, hFA⟩ : ∃ FA : Nat, FA = 1 + l0 + l2 := ⟨_, rfl⟩
  have HFI : Hid (∀ V : World, Calls Try.prog 27 #[.agg #[.slice s0 l0 c0, .slice s1 l1 c1, .slice s2 l2 c2, .slice s3 l3 c3, .slice s4 l4 c4, .slice s5 l5 c5]] V fun e w' => e = .returned (.int .i64 (FA : Int)) ∧ Below V.heap.size V w') := hide (fun V => by
    rw [hFA]
    exact iFirst s0 s2 l0 l2 c0 c2 _ _ _ _ V hl0 (by omega))
  have HEL := hide (show (xs4.map (fun p : Pin => p.lit) ++ (xs5.map (fun p : Pin => p.lit) ++ xs2.map (fun l : Latch => l.next))).length ≤ 4194304 by simp; omega)
  have HR : Hid (litsB l0 xs2 xs xs4 xs5 = (andsB FA xs && (xs4.map (fun p : Pin => p.lit) ++ (xs5.map (fun p : Pin => p.lit) ++ xs2.map (fun l : Latch => l.next))).all (fun e => litB e (FA + xs.length)))) := hide (by unfold litsB; rw [hFA, hd2])
  have hFb : FA ≤ 2097153 := by omega
  generalize xs4.map (fun p : Pin => p.lit) ++ (xs5.map (fun p : Pin => p.lit) ++ xs2.map (fun l : Latch => l.next)) = es at *
  generalize litsB l0 xs2 xs xs4 xs5 = RR at *
  have HSL : Hid (∀ V : World, Below w.heap.size w V → RS 2 RAndG V 0 xs (.slice s3 l3 c3)) := hide (fun V hb => h3.later RAndG.keeps hb)
  clear h2 h4 h5 hd2 hFA hl0 hl2 hl4 hl5
  obtain ⟨hlen, hcs⟩ : l3 = xs.length ∧ (xs ≠ [] → ∃ b o, s3 = some ⟨b, o, none⟩ ∧ ∀ i x, xs[i]? = some x → ∃ u, u.length = 2 ∧ At w b (o + i * 2) u ∧ RAndG w 0 x u) := by
    obtain ⟨a, c, hv, _, _, h⟩ := h3
    injection hv with e1 e2 e3
    refine ⟨e2, fun hne => ?_⟩
    obtain ⟨b, o, ha, _, hh⟩ := h hne
    exact ⟨b, o, by rw [e1, ha], hh⟩
  clear h3 HSL
  subst hlen
  have HCS := hide hcs
  clear hcs
  have HW' := hide hW
  go_enter Try.func51, Try.ntmps51
  go_wp2_with fail
  rw [← unhide HW']
  refine (unhide HFI _).mono ?_
  rintro e W0 ⟨rfl, hb0⟩
  have HB0 := hide hb0
  obtain ⟨q0, q1, q2, q3, q4, q5⟩ := unhide HC1 W0 hb0
  clear hb0 hW
  go_wp2_with fail
  clear q0 q1 q2 q3 q4 q5
  go_loopw [3, 13] (fun vv i wr => ∃ k : Nat, k ≤ xs.length ∧ i = .int .i64 k ∧ vv = .int .i64 ((FA + k : Nat) : Int) ∧ andsB FA (xs.take k) = true ∧ Below W.heap.size W wr) (fun vv i wr => xs.length - (intOf i).toNat)
  case atStart => exact ⟨0, Nat.zero_le _, rfl, rfl, rfl, unhide HB0⟩
  case round =>
    obtain ⟨k, hk, rfl, rfl, hall, hb⟩ := hrel
    have HA := hide hall
    clear hall HB0
    by_cases hlt : k < xs.length
    · obtain ⟨b, o, hs3, hcx⟩ := unhide HCS (by intro h; rw [h] at hlt; simp at hlt)
      have hx : xs[k]? = some xs[k] := List.getElem?_eq_getElem hlt
      generalize xs[k] = x at hx
      have HST := hide (andsB_take xs FA k x hx)
      have HF : Hid ((litB x.a (FA + k) && litB x.b (FA + k)) = false → RR = false) := hide (fun h => by
        rw [unhide HR, andsB_mono xs FA (k + 1) (by rw [unhide HST, h, Bool.and_false])]; rfl)
      obtain ⟨u, hul, hat, hus⟩ := hcx k x hx
      subst hus
      have k0 := cell_later (btr (unhide HW) hb) (hat.get (j := 0) rfl)
      have k1 := cell_later (btr (unhide HW) hb) (hat.get (j := 1) rfl)
      simp only [Nat.add_zero] at k0
      have HB := hide (bal (btr (unhide HW) hb) (.cells #[.int .i64 x.a, .int .i64 x.b] 54))
      have HB2 := hide (bal hb (.cells #[.int .i64 x.a, .int .i64 x.b] 54))
      clear hat hul hx hb hcx
      have HVV := hide (show FA + k ≤ 4194304 by omega)
      have HVN := hide (show FA + (k + 1) = FA + k + 1 by omega)
      generalize FA + k = VV at *
      have hVV := unhide HVV
      generalize x.a = za at *
      generalize x.b = zb at *
      generalize hp1 : litB za VV = p1 at *
      generalize hp2 : litB zb VV = p2 at *
      have HP1 := hide hp1
      have HP2 := hide hp2
      clear hp1 hp2
      subst hs3
      cases p1
      · go_wp2_with fail
        refine (iLit za VV _ (unhide HVV)).mono ?_
        rintro e W1 ⟨rfl, h⟩
        subst h
        rw [unhide HP1]
        go_wp2_with fail
        exact bodyPost_ret (v := .bool false) (by simp [results, Try.results51, go_sem]) rfl ⟨by rw [unhide HF rfl], unhide HB⟩
      · cases p2
        · go_wp2_with fail
          refine (iLit za VV _ (unhide HVV)).mono ?_
          rintro e W1 ⟨rfl, h⟩
          subst h
          rw [unhide HP1]
          go_wp2_with fail
          refine (iLit zb VV _ (unhide HVV)).mono ?_
          rintro e W2 ⟨rfl, h⟩
          subst h
          rw [unhide HP2]
          go_wp2_with fail
          exact bodyPost_ret (v := .bool false) (by simp [results, Try.results51, go_sem]) rfl ⟨by rw [unhide HF rfl], unhide HB⟩
        · go_wp2_with fail
          refine (iLit za VV _ (unhide HVV)).mono ?_
          rintro e W1 ⟨rfl, h⟩
          subst h
          rw [unhide HP1]
          go_wp2_with fail
          refine (iLit zb VV _ (unhide HVV)).mono ?_
          rintro e W2 ⟨rfl, h⟩
          subst h
          rw [unhide HP2]
          go_wp2_with fail
          go_roundw
          case rel => exact ⟨k + 1, by omega, by go_num, by rw [unhide HVN]; go_num, by rw [unhide HST, unhide HA]; rfl, unhide HB2⟩
          case measure => simp [intOf]; omega
    · obtain rfl : k = xs.length := by omega
      have HB := hide (btr (unhide HW) hb)
      obtain ⟨q0, q1, q2, q3, q4, q5⟩ := unhide HC1 wr hb
      have hA2 : andsB FA xs = true := by have h := unhide HA; rwa [List.take_of_length_le (Nat.le_refl _)] at h
      have HR2 : Hid (RR = es.all (fun e => litB e (FA + xs.length))) := hide (by rw [unhide HR, hA2]; rfl)
      have HVV := hide (show FA + xs.length ≤ 4194304 by omega)
      generalize FA + xs.length = VV at *
      have hVV := unhide HVV
      clear hb hA2 HA HR
      go_wp2_with fail
      refine (unhide HE _ (unhide HB)).mono ?_
      rintro e W1 ⟨⟨v', rfl, ho⟩, hb1⟩
      have hr := ho.any (unhide HEL)
      have HB1 := hide (btr (unhide HB) hb1)
      clear ho hb1 q0 q1 q2 q3 q4 q5
      rcases hr.open with ⟨rfl, a, c, rfl⟩ | ⟨b, o, c, rfl, hc, hn, _, hce⟩
      · clear hr
        go_wp2
        refine wp_loop_rounds 1 ?_
        rw [rounds_succ]
        go_wp2
        exact bodyPost_ret (v := .bool true) (by simp [results, Try.results51, go_sem]) rfl ⟨by rw [unhide HR2]; rfl, unhide HB1⟩
      · have HCE := hide hce
        unfold maxLen at hn
        clear hr hce hc
        go_wp2
        go_loop [35] (fun i => ∃ k : Nat, k ≤ es.length ∧ i = .int .i64 k ∧ (es.take k).all (fun e => litB e VV) = true) (fun i => es.length - (intOf i).toNat)
        case atStart => exact ⟨0, Nat.zero_le _, rfl, rfl⟩
        case round =>
          obtain ⟨k, hk, rfl, hall⟩ := hrel
          have HA := hide hall
          clear hall
          by_cases hlt : k < es.length
          · have hx : es[k]? = some es[k] := List.getElem?_eq_getElem hlt
            have hmem : es[k] ∈ es := List.getElem_mem hlt
            generalize es[k] = z at hx hmem
            have HST := hide (show (es.take (k + 1)).all (fun e => litB e VV) = ((es.take k).all (fun e => litB e VV) && litB z VV) by rw [List.take_add_one, hx, List.all_append]; simp)
            have HF : Hid (litB z VV = false → RR = false) := hide (fun h => by rw [unhide HR2, ← Bool.not_eq_true]; intro e; rw [List.all_eq_true.1 e z hmem] at h; cases h)
            obtain ⟨u, hul, hat, hus⟩ := unhide HCE k z hx
            subst hus
            have k0 := hat.get (j := 0) rfl
            simp only [Nat.add_zero, Nat.mul_one] at k0
            clear hat hul HCE hx hmem
            generalize hp1 : litB z VV = p1 at *
            have HP1 := hide hp1
            clear hp1
            cases p1
            · go_wp2_with fail
              refine (iLit z VV _ (unhide HVV)).mono ?_
              rintro e W2 ⟨rfl, h⟩
              subst h
              rw [unhide HP1]
              go_wp2_with fail
              exact bodyPost_ret (v := .bool false) (by simp [results, Try.results51, go_sem]) rfl ⟨by rw [show RR = false from unhide HF (by first | rfl | trivial)], unhide HB1⟩
            · go_wp2_with fail
              refine (iLit z VV _ (unhide HVV)).mono ?_
              rintro e W2 ⟨rfl, h⟩
              subst h
              rw [unhide HP1]
              go_wp2_with fail
              go_round
              case rel => exact ⟨k + 1, by omega, by go_num, by rw [unhide HST, unhide HA]; rfl⟩
              case measure => simp [intOf]; omega
          · obtain rfl : k = es.length := by omega
            clear HCE
            go_wp2
            refine bodyPost_ret (v := .bool true) (by simp [results, Try.results51, go_sem]) rfl ⟨ret_bool ?_, unhide HB1⟩
            have h := unhide HA
            rw [List.take_of_length_le (Nat.le_refl _)] at h
            rw [unhide HR2, h]
end Go.Proofs.Ytnoklbnacfmpdac
