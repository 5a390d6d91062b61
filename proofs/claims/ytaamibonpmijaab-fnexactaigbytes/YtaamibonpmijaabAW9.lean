/- impl.AigBytes. -/
import Derived.Test.YtaamibonpmijaabAWc
import Derived.Test.YtaamibonpmijaabAI
namespace Go.Proofs.Ytaamibonpmijaab
open Go Go.RowKit Gs
set_option linter.unusedVariables false
set_option linter.unusedSimpArgs false
set_option maxRecDepth 100000
theorem lit_of {x : Int} {n : Nat} (h : litB x n = true) : 0 ≤ x ∧ x < 2 * (n : Int) := by
  unfold litB at h
  rw [Bool.and_eq_true, decide_eq_true_eq, decide_eq_true_eq] at h
  exact h
theorem names_of {ss : List ByteArray} (h : namesB ss = true) : ∀ s ∈ ss, s.size ≤ 1000 := by
  unfold namesB at h
  rw [Bool.and_eq_true] at h
  intro s hs
  have := List.all_eq_true.1 h.1 s hs
  unfold nmOK at this
  rw [Bool.and_eq_true, decide_eq_true_eq, decide_eq_true_eq] at this
  exact this.2
theorem ands_of (f : Nat) : ∀ (xs : List AndG), andsB f xs = true → ∀ (k : Nat) x, xs[k]? = some x → 0 ≤ x.a ∧ x.a < 2 * ((f + k : Nat) : Int) ∧ 0 ≤ x.b ∧ x.b < 2 * ((f + k : Nat) : Int) := by
  intro xs h k x hx
  have hk : k < xs.length := (List.getElem?_eq_some_iff.1 hx).1
  have h1 : andsB f (xs.take (k + 1)) = true := by
    cases e : andsB f (xs.take (k + 1)) with
    | true => rfl
    | false => rw [andsB_mono xs f (k + 1) e] at h; cases h
  rw [andsB_take xs f k x hx, Bool.and_eq_true, Bool.and_eq_true] at h1
  have e1 := lit_of h1.2.1
  have e2 := lit_of h1.2.2
  exact ⟨e1.1, e1.2, e2.1, e2.2⟩
theorem good_of {a : Aig} (h : aigI a = true) : Good a := by
  unfold aigI at h
  rw [Bool.and_eq_true, Bool.and_eq_true, Bool.and_eq_true] at h
  obtain ⟨⟨⟨hc, hl⟩, hla⟩, hn⟩ := h
  unfold countsA countsN at hc
  simp only [Bool.and_eq_true, decide_eq_true_eq] at hc
  unfold litsB at hl
  rw [Bool.and_eq_true, List.all_append, List.all_append, Bool.and_eq_true, Bool.and_eq_true] at hl
  obtain ⟨ha, ho, hch, hnx⟩ := hl
  unfold nameLs at hn
  simp only [List.all_cons, List.all_nil, Bool.and_true, Bool.and_eq_true] at hn
  obtain ⟨n1, n2, n3, n4⟩ := hn
  have m1 := names_of n1
  have m2 := names_of n2
  have m3 := names_of n3
  have m4 := names_of n4
  refine ⟨by omega, by omega, by omega, by omega, by omega, by omega, fun s hs => m1 s (List.mem_append_left _ hs), fun s hs => m1 s (List.mem_append_right _ hs), fun l hl => ?_, ands_of _ _ ha, fun p hp => ?_, fun p hp => ?_⟩
  · have e1 := lit_of (List.all_eq_true.1 hnx l.next (List.mem_map.2 ⟨l, hl, rfl⟩))
    have e2 := List.all_eq_true.1 hla l hl
    unfold latchB at e2
    simp only [Bool.and_eq_true, decide_eq_true_eq] at e2
    exact ⟨m2 l.name (List.mem_map.2 ⟨l, hl, rfl⟩), by omega, by omega, by omega, by omega, by omega, by omega⟩
  · have e1 := lit_of (List.all_eq_true.1 ho p.lit (List.mem_map.2 ⟨p, hp, rfl⟩))
    exact ⟨m3 p.name (List.mem_map.2 ⟨p, hp, rfl⟩), by omega, by omega⟩
  · have e1 := lit_of (List.all_eq_true.1 hch p.lit (List.mem_map.2 ⟨p, hp, rfl⟩))
    exact ⟨m4 p.name (List.mem_map.2 ⟨p, hp, rfl⟩), by omega, by omega⟩
/-- What AigBytes answers: bytes and a code. -/
def ansB (ok : Bool) (bs : List UInt8) : List UInt8 × Int := if ok then (if 65536 < bs.length then ([], 2) else (bs, 0)) else ([], 1)
set_option maxHeartbeats 16000000 in
theorem iAigBytes (a : Aig) (u : List Value) (w : World) (hl : szAig a ≤ 1048576) (hr : RAig w 0 a u) :
    Calls Try.prog 7 #[.agg u.toArray] w fun e w' => (∃ v', e = .returned (.tuple #[v', .int .i64 (ansB (aigI a) (bytesA a)).2]) ∧ OB w.heap.size w' v' (ansB (aigI a) (bytesA a)).1) ∧ Below w.heap.size w w' := by
  have HOK := hide (fun (V : World) (hb : Below w.heap.size w V) => iAigOK a u V hl (RAig.keeps _ _ _ _ _ (later_cells hb 0) hr))
  obtain ⟨v0, v1, v2, v3, v4, v5, rfl, h0, h1, h2, h3, h4, h5⟩ := hr
  obtain ⟨s0, c0, rfl⟩ := h0.slice
  obtain ⟨s1, c1, rfl⟩ := h1.slice
  obtain ⟨s2, c2, rfl⟩ := h2.slice
  obtain ⟨s3, c3, rfl⟩ := h3.slice
  obtain ⟨s4, c4, rfl⟩ := h4.slice
  obtain ⟨s5, c5, rfl⟩ := h5.slice
  obtain ⟨l0, e0⟩ : ∃ l, a.ins.length = l := ⟨_, rfl⟩
  rw [e0] at h0 HOK ⊢
  clear e0
  obtain ⟨l1, e1⟩ : ∃ l, a.clocks.length = l := ⟨_, rfl⟩
  rw [e1] at h1 HOK ⊢
  clear e1
  obtain ⟨l2, e2⟩ : ∃ l, a.latches.length = l := ⟨_, rfl⟩
  rw [e2] at h2 HOK ⊢
  clear e2
  obtain ⟨l3, e3⟩ : ∃ l, a.ands.length = l := ⟨_, rfl⟩
  rw [e3] at h3 HOK ⊢
  clear e3
  obtain ⟨l4, e4⟩ : ∃ l, a.outs.length = l := ⟨_, rfl⟩
  rw [e4] at h4 HOK ⊢
  clear e4
  obtain ⟨l5, e5⟩ : ∃ l, a.checks.length = l := ⟨_, rfl⟩
  rw [e5] at h5 HOK ⊢
  clear e5
  change Hid (∀ V, Below w.heap.size w V → Calls Try.prog 24 #[.agg #[.slice s0 l0 c0, .slice s1 l1 c1, .slice s2 l2 c2, .slice s3 l3 c3, .slice s4 l4 c4, .slice s5 l5 c5]] V _) at HOK
  show Calls Try.prog 7 #[.agg #[.slice s0 l0 c0, .slice s1 l1 c1, .slice s2 l2 c2, .slice s3 l3 c3, .slice s4 l4 c4, .slice s5 l5 c5]] w _
  have HG := hide (fun (hI : aigI a = true) (V : World) (hb : Below w.heap.size w V) => iGraph V V.heap.size a s0 s1 s2 s3 s4 s5 l0 l1 l2 l3 l4 l5 c0 c1 c2 c3 c4 c5 (V.alloc (.cells #[.slice none 0 0] 62)) ⟨bal (brf V) _, Nat.le_refl _, _, heap_alloc_new V _, OB_nil _ _⟩ (h0.later RStr.keeps hb) (h1.later RStr.keeps hb) (h2.later RLatch.keeps hb) (h3.later RAndG.keeps hb) (h4.later RPin.keeps hb) (h5.later RPin.keeps hb) (good_of hI))
  have HBL : Hid (aigI a = true → (bytesA a).length ≤ 40000000) := hide (fun h => bytesA_len (good_of h))
  have HC1 : Hid (∀ V, Below (w.alloc (.cells #[.slice s0 l0 c0, .slice s1 l1 c1, .slice s2 l2 c2, .slice s3 l3 c3, .slice s4 l4 c4, .slice s5 l5 c5] 36)).heap.size (w.alloc (.cells #[.slice s0 l0 c0, .slice s1 l1 c1, .slice s2 l2 c2, .slice s3 l3 c3, .slice s4 l4 c4, .slice s5 l5 c5] 36)) V → V.cell? ⟨w.heap.size, 0, none⟩ = some (.slice s0 l0 c0) ∧ V.cell? ⟨w.heap.size, 1, none⟩ = some (.slice s1 l1 c1) ∧ V.cell? ⟨w.heap.size, 2, none⟩ = some (.slice s2 l2 c2) ∧ V.cell? ⟨w.heap.size, 3, none⟩ = some (.slice s3 l3 c3) ∧ V.cell? ⟨w.heap.size, 4, none⟩ = some (.slice s4 l4 c4) ∧ V.cell? ⟨w.heap.size, 5, none⟩ = some (.slice s5 l5 c5)) := hide (fun V hb => ⟨cell_later hb (by rw [World.cell?_alloc_new]; rfl), cell_later hb (by rw [World.cell?_alloc_new]; rfl), cell_later hb (by rw [World.cell?_alloc_new]; rfl), cell_later hb (by rw [World.cell?_alloc_new]; rfl), cell_later hb (by rw [World.cell?_alloc_new]; rfl), cell_later hb (by rw [World.cell?_alloc_new]; rfl)⟩)
  clear h0 h1 h2 h3 h4 h5
  generalize hOK : aigI a = ok at *
  clear hOK
  generalize bytesA a = bs at *
  cases ok
  · go_enter Try.func7, Try.ntmps7
    go_wp2_with fail
    refine (unhide HOK _ (bal (brf w) _)).mono ?_
    rintro e W1 ⟨rfl, hb1⟩
    have HB1 := hide (btr (bal (brf w) _) hb1)
    clear hb1
    go_wp2_with fail
    exact bodyPost_ret (v := .tuple #[.slice none 0 0, .int .i64 1]) (by simp [results, Try.results7, go_sem]) rfl ⟨⟨_, rfl, OB_nil _ _⟩, unhide HB1⟩
  · have hbl := unhide HBL (by trivial)
    go_enter Try.func7, Try.ntmps7
    go_wp2_with fail
    refine (unhide HOK _ (bal (brf w) _)).mono ?_
    rintro e W1 ⟨rfl, hb1⟩
    have HB1 := hide (btr (bal (brf w) (.cells #[.slice s0 l0 c0, .slice s1 l1 c1, .slice s2 l2 c2, .slice s3 l3 c3, .slice s4 l4 c4, .slice s5 l5 c5] 36)) hb1)
    obtain ⟨q0, q1, q2, q3, q4, q5⟩ := unhide HC1 W1 hb1
    have k0 := cell_later (bal (brf W1) (.cells #[.slice none 0 0] 62)) q0
    have k1 := cell_later (bal (brf W1) (.cells #[.slice none 0 0] 62)) q1
    have k2 := cell_later (bal (brf W1) (.cells #[.slice none 0 0] 62)) q2
    have k3 := cell_later (bal (brf W1) (.cells #[.slice none 0 0] 62)) q3
    have k4 := cell_later (bal (brf W1) (.cells #[.slice none 0 0] 62)) q4
    have k5 := cell_later (bal (brf W1) (.cells #[.slice none 0 0] 62)) q5
    clear hb1
    go_wp2_with fail
    refine (unhide HG (by trivial) W1 (unhide HB1)).mono ?_
    rintro e W2 ⟨rfl, hst⟩
    obtain ⟨hb2, _, vo, hcb, hob⟩ := hst
    have c0 := cell_of (o := 0) hcb rfl
    have HO := hide (hob.low (unhide HB1).size)
    have HB2 := hide (btr (unhide HB1) hb2)
    obtain ⟨sa, sc, hvo⟩ := hob.shape
    subst hvo
    clear hb2 hcb hob q0 q1 q2 q3 q4 q5 k0 k1 k2 k3 k4 k5
    by_cases hbig : (65536 : Int) < (bs.length : Int)
    · have HA := hide (show ansB true bs = ([], 2) by unfold ansB; rw [if_pos rfl, if_pos (by omega)])
      go_wp2_with fail
      exact bodyPost_ret (v := .tuple #[.slice none 0 0, .int .i64 2]) (by simp [results, Try.results7, go_sem]) rfl ⟨⟨_, by rw [unhide HA], by rw [unhide HA]; exact OB_nil _ _⟩, unhide HB2⟩
    · have HA := hide (show ansB true bs = (bs, 0) by unfold ansB; rw [if_pos rfl, if_neg (by omega)])
      go_wp2_with fail
      exact bodyPost_ret (v := .tuple #[.slice sa bs.length sc, .int .i64 0]) (by simp [results, Try.results7, go_sem]) rfl ⟨⟨_, by rw [unhide HA], by rw [unhide HA]; exact unhide HO⟩, unhide HB2⟩
end Go.Proofs.Ytaamibonpmijaab
