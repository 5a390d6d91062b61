/- Both answer the same of a machine. -/
import Derived.Test.YtjbbjgoofenkpaaG5
import Derived.Laws.Strings
namespace Go.Proofs.Ytjbbjgoofenkpaa
open Go.RowKit Gs
set_option linter.unusedVariables false
set_option linter.unusedSimpArgs false
set_option maxRecDepth 100000
theorem known_iff (s : ByteArray) (h : Vb.okV (L s) = true) : (Vb.kn (L s) == Vb.ones s.size) = (L s).all Vb.knB := by
  have h64 := ((okV_iff s).1 h).2.1
  rw [Bool.eq_iff_iff, beq_iff_eq, ← L_len s]
  exact Vb.kn_ones (by rw [L_len]; exact h64)
theorem knB_isV {c : UInt8} (h : Vb.knB c = true) : Vb.isV c = true := by
  revert h
  unfold Vb.knB Vb.isV
  simp
  rintro (rfl | rfl) <;> simp
/-- A known vector's text. -/
theorem knownS_iff (s : ByteArray) : knownS s = true ↔ 1 ≤ s.size ∧ s.size ≤ 64 ∧ (L s).all Vb.knB = true := by
  unfold knownS
  constructor
  · intro h
    rw [Bool.and_eq_true] at h
    obtain ⟨h1, h2, _⟩ := (okV_iff s).1 h.1
    rw [known_iff s h.1] at h
    exact ⟨h1, h2, h.2⟩
  · rintro ⟨h1, h2, h3⟩
    have hv : Vb.okV (L s) = true := (okV_iff s).2 ⟨h1, h2, by
      rw [List.all_eq_true] at h3 ⊢
      exact fun c hc => knB_isV (h3 c hc)⟩
    rw [hv, known_iff s hv, h3]; rfl
theorem empty_iff (s : ByteArray) : s.toList.isEmpty = true ↔ s.size = 0 := by
  rw [ByteArray.toList_eq, List.isEmpty_iff_length_eq_zero]
  rw [show s.data.toList = L s from rfl, L_len]
theorem text_eq (a b : ByteArray) : (a.toList == b.toList) = decide (a = b) := by
  rw [Bool.eq_iff_iff, beq_iff_eq, decide_eq_true_eq, ByteArray.toList_eq, ByteArray.toList_eq]
  exact ⟨fun h => L_inj h, fun h => by rw [h]⟩
/-- A state's text. -/
theorem txtB_iff (s : ByteArray) : txtB s = true ↔ s.size ≤ 64 ∧ (L s).all Vb.knB = true := by
  unfold txtB
  rw [Bool.or_eq_true, knownS_iff, empty_iff]
  constructor
  · rintro (⟨_, h2, h3⟩ | h)
    · exact ⟨h2, h3⟩
    · have : L s = [] := List.length_eq_zero_iff.1 (by rw [L_len]; exact h)
      exact ⟨by omega, by rw [this]; rfl⟩
  · rintro ⟨h1, h2⟩
    by_cases e : s.size = 0
    · exact .inr e
    · exact .inl ⟨by omega, h1, h2⟩
theorem badHead_iff (st : ByteArray) (n1 n2 N : Nat) : badHead st n1 n2 N = false ↔ txtB st = true ∧ n1 = N ∧ n2 = N := by
  rw [txtB_iff]
  unfold badHead
  simp only [Bool.or_eq_false_iff, decide_eq_false_iff_not, Bool.not_eq_false', bne_eq_false_iff_eq]
  constructor
  · rintro ⟨⟨⟨a, b⟩, c⟩, d⟩
    exact ⟨⟨by omega, b⟩, by omega, by omega⟩
  · rintro ⟨⟨a, b⟩, c, d⟩
    exact ⟨⟨⟨by omega, b⟩, by omega⟩, by omega⟩
theorem badIn_iff (ob z : Int) (N2 : Nat) (y : ByteArray) (h1 : 1 ≤ ob) (h2 : ob ≤ 64) : badIn ob z N2 y = false ↔ knownS y = true ∧ (y.size : Int) = ob ∧ 0 ≤ z ∧ z < (N2 : Int) := by
  rw [knownS_iff]
  unfold badIn
  simp only [Bool.or_eq_false_iff, decide_eq_false_iff_not, Bool.not_eq_false', bne_eq_false_iff_eq]
  constructor
  · rintro ⟨⟨⟨a, b⟩, c⟩, d⟩
    exact ⟨⟨by omega, by omega, d⟩, c, by omega, by omega⟩
  · rintro ⟨⟨a, b, d⟩, c, e, f⟩
    exact ⟨⟨⟨by omega, by omega⟩, c⟩, d⟩
theorem nodup_iff_getD (xs : List ByteArray) : xs.Nodup ↔ ∀ s, s < xs.length → ∀ t, t < s → xs.getD t ByteArray.empty ≠ xs.getD s ByteArray.empty := by
  rw [List.nodup_iff_pairwise_ne, List.pairwise_iff_getElem]
  constructor
  · intro h s hs t ht
    have := h t s (by omega) hs ht
    rw [List.getD_eq_getElem?_getD, List.getD_eq_getElem?_getD, List.getElem?_eq_getElem (by omega), List.getElem?_eq_getElem hs]
    exact this
  · intro h i j hi hj hij
    have := h j hj i hij
    rw [List.getD_eq_getElem?_getD, List.getD_eq_getElem?_getD, List.getElem?_eq_getElem hi, List.getElem?_eq_getElem hj] at this
    exact this
/-- What the specification's FsmOK answers. -/
def fsmS (f : Fsm) : Bool := cntB f.ins f.outBits f.states.length f.next.length f.outs.length && (List.range f.states.length).all (rowS f (cntI f.ins))
theorem rowS_iff (f : Fsm) (s : Nat) (h1 : 1 ≤ f.outBits) (h2 : f.outBits ≤ 64) : rowS f (cntI f.ins) s = true ↔ txtB (f.states.getD s ByteArray.empty) = true ∧ rowAt f s = true ∧ ∀ t, t < s → f.states.getD t ByteArray.empty ≠ f.states.getD s ByteArray.empty := by
  unfold rowS rowAt rowB
  simp only [Bool.and_eq_true, Bool.not_eq_true', badHead_iff, List.all_eq_true, List.mem_range, badIn_iff _ _ _ _ h1 h2, text_eq, decide_eq_false_iff_not, decide_eq_true_eq, inB]
  constructor
  · rintro ⟨⟨⟨a, b, c⟩, d⟩, e⟩
    exact ⟨a, ⟨⟨b, c⟩, fun i hi => by obtain ⟨p, q, r, s⟩ := d i hi; exact ⟨⟨p, q⟩, r, s⟩⟩, e⟩
  · rintro ⟨a, ⟨⟨b, c⟩, d⟩, e⟩
    exact ⟨⟨⟨a, b, c⟩, fun i hi => by obtain ⟨⟨p, q⟩, r, s⟩ := d i hi; exact ⟨p, q, r, s⟩⟩, e⟩
theorem all_getD (p : ByteArray → Bool) (xs : List ByteArray) : xs.all p = true ↔ ∀ s, s < xs.length → p (xs.getD s ByteArray.empty) = true := by
  rw [List.all_eq_true]
  constructor
  · intro h s hs
    rw [List.getD_eq_getElem?_getD, List.getElem?_eq_getElem hs]
    exact h _ (List.getElem_mem hs)
  · intro h x hx
    obtain ⟨i, hi, rfl⟩ := List.getElem_of_mem hx
    have := h i hi
    rw [List.getD_eq_getElem?_getD, List.getElem?_eq_getElem hi] at this
    exact this
theorem fsm_same (f : Fsm) : fsmI f = fsmS f := by
  unfold fsmI fsmS
  cases hc : cntB f.ins f.outBits f.states.length f.next.length f.outs.length
  · rfl
  · obtain ⟨_, _, h1, h2, _⟩ := cntB_parts hc
    rw [Bool.true_and, Bool.true_and, Bool.eq_iff_iff, Bool.and_eq_true, Bool.and_eq_true, decide_eq_true_eq, all_getD, nodup_iff_getD, List.all_eq_true, List.all_eq_true]
    simp only [List.mem_range]
    constructor
    · rintro ⟨⟨a, b⟩, c⟩ s hs
      exact (rowS_iff f s h1 h2).2 ⟨a s hs, c s hs, b s hs⟩
    · intro h
      exact ⟨⟨fun s hs => ((rowS_iff f s h1 h2).1 (h s hs)).1, fun s hs => ((rowS_iff f s h1 h2).1 (h s hs)).2.2⟩, fun s hs => ((rowS_iff f s h1 h2).1 (h s hs)).2.1⟩
theorem sFsmOK (f : Fsm) (u : List Value) (w : World) (hr : RFsm w 0 f u) :
    Calls Try.prog 19 #[.agg u.toArray] w fun e w' => e = .returned (.bool (fsmS f)) ∧ Below w.heap.size w w' := by
  obtain ⟨v2, v3, v4, rfl, h2, h3, h4⟩ := hr
  have l2 := h2.len
  have l3 := h3.len
  have l4 := h4.len
  cases hc : cntB f.ins f.outBits f.states.length f.next.length f.outs.length
  · obtain ⟨a2, c2, rfl⟩ := h2.slice
    obtain ⟨a3, c3, rfl⟩ := h3.slice
    obtain ⟨a4, c4, rfl⟩ := h4.slice
    have E : fsmS f = false := by unfold fsmS; rw [hc]; rfl
    rw [E]
    exact sCntNo f.ins f.outBits a2 a3 a4 _ _ _ c2 c3 c4 w l2 l3 l4 hc
  · obtain ⟨k0, k1, k2, k3, k4, k5, k6, k7⟩ := cntB_parts hc
    have E : fsmS f = (List.range f.states.length).all (rowS f (cntI f.ins)) := by unfold fsmS; rw [hc, Bool.true_and]
    rw [E]
    have hfw : FW w f v2 v3 v4 := ⟨h2, h3, h4⟩
    rcases h2.open with ⟨hnil, _⟩ | ⟨b2, o2, c2, rfl, _, _, _, _⟩
    · have e : f.states.length = 0 := by rw [hnil]; rfl
      omega
    rcases h3.open with ⟨hnil, _⟩ | ⟨b3, o3, c3, rfl, _, _, _, _⟩
    · have e : f.next.length = 0 := by rw [hnil]; rfl
      omega
    rcases h4.open with ⟨hnil, _⟩ | ⟨b4, o4, c4, rfl, _, _, _, _⟩
    · have e : f.outs.length = 0 := by rw [hnil]; rfl
      omega
    exact sFsmYes f f.ins f.outBits _ _ _ c2 c3 c4 b2 o2 b3 o3 b4 o4 (cntI f.ins) w rfl rfl rfl rfl hfw k0 k1 k2 k3 k4 k5 k6 k7 rfl
end Go.Proofs.Ytjbbjgoofenkpaa
