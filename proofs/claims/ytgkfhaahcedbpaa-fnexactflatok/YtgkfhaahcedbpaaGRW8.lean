/- The program's look: statements however deep; a signal. -/
import Derived.Test.YtgkfhaahcedbpaaP10
import Derived.Test.YtgkfhaahcedbpaaGSHd
namespace Go.Proofs.Ytgkfhaahcedbpaa
open Go Go.RowKit Gs
set_option linter.unusedVariables false
set_option linter.unusedSimpArgs false
set_option maxRecDepth 100000
set_option maxHeartbeats 8000000
theorem iStAll (sg : List Signal) (kd tg : Nat) (hkd : kd < 2 ^ 48) (htg : tg < 2 ^ 48) (w0 : World) (sv : Value) (T : TypeId) (hsg : RS 6 RSignal w0 0 sg sv) (hsl : sg.length ≤ 1048576) : ∀ d, StP sg kd tg w0 sv T d
  | 0 => fun x u deep k W hr => hr.elim
  | d + 1 => iStStep sg kd tg hkd htg w0 sv T d hsg hsl (iExsAll sg w0 sv T hsg hsl d) (iStAll sg kd tg hkd htg w0 sv T hsg hsl d)
def depthB (kind depth : Int) : Bool := if kind = 5 then decide (1 ≤ depth) && decide (depth ≤ 64) else decide (depth = 0)
def sigFB (g : Signal) : Bool := ((decide (1 ≤ g.kind) && decide (g.kind ≤ 5)) && (decide (1 ≤ g.name.size) && decide (g.name.size ≤ 1000))) && (((decide (1 ≤ g.width) && decide (g.width ≤ 64)) && (decide ((g.init.size : Int) = g.width) && Vb.okV (L g.init))) && depthB g.kind g.depth)
theorem iSignalFits (nm ini : ByteArray) (kind width depth : Int) (sd : Bool) (W : World) (h1 : nm.size ≤ maxLen) (h2 : ini.size ≤ maxLen) :
    Calls Try.prog 15 #[.agg #[.string nm, .int .i64 kind, .int .i64 width, .int .i64 depth, .bool sd, .string ini]] W fun e W' => e = .returned (.bool (sigFB ⟨nm, kind, width, depth, sd, ini⟩)) ∧ Below W.heap.size W W' := by
  have HB := hide (bal (brf W) (.cells #[.string nm, .int .i64 kind, .int .i64 width, .int .i64 depth, .bool sd, .string ini] 38))
  have SN0 := fun w => iNameFits nm w h1
  have SW0 := fun w => iWidthOK width w
  have HSB := hide (fun w => iBitsOK ini w h2)
  have hi0 := h2
  unfold maxLen at hi0
  clear h1 h2
  have EQ : sigFB ⟨nm, kind, width, depth, sd, ini⟩ = (((decide (1 ≤ kind) && decide (kind ≤ 5)) && (decide (1 ≤ nm.size) && decide (nm.size ≤ 1000))) && (((decide (1 ≤ width) && decide (width ≤ 64)) && (decide ((ini.size : Int) = width) && Vb.okV (L ini))) && depthB kind depth)) := rfl
  rw [EQ]
  clear EQ
  by_cases k1 : kind < 1
  · have e0 : decide (1 ≤ kind) = false := decide_eq_false (by omega)
    rw [e0]
    go_enter Try.func15, Try.ntmps15
    go_wp2_with (first | fail)
    exact bodyPost_ret (v := .bool false) (by simp [results, Try.results15, go_sem]) rfl ⟨rfl, unhide HB⟩
  by_cases k2 : 5 < kind
  · have e0 : decide (kind ≤ 5) = false := decide_eq_false (by omega)
    rw [e0]
    go_enter Try.func15, Try.ntmps15
    go_wp2_with (first | fail)
    exact bodyPost_ret (v := .bool false) (by simp [results, Try.results15, go_sem]) rfl ⟨by simp, unhide HB⟩
  rw [decide_eq_true (show 1 ≤ kind by omega), decide_eq_true (show kind ≤ 5 by omega), Bool.true_and, Bool.true_and]
  generalize (decide (1 ≤ nm.size) && decide (nm.size ≤ 1000)) = NB at *
  cases NB
  · have SN := SN0
    go_enter Try.func15, Try.ntmps15
    go_wp2_with (first | (go_at_call 25; refine (SN _).mono ?_; rintro e w1 ⟨rfl, rfl⟩))
    exact bodyPost_ret (v := .bool false) (by simp [results, Try.results15, go_sem]) rfl ⟨rfl, unhide HB⟩
  have SN := SN0
  clear SN0
  rw [Bool.true_and]
  generalize (decide (1 ≤ width) && decide (width ≤ 64)) = WB at *
  cases WB
  · have SW := SW0
    go_enter Try.func15, Try.ntmps15
    go_wp2_with (first | (go_at_call 25; refine (SN _).mono ?_; rintro e w1 ⟨rfl, rfl⟩) | (go_at_call 26; refine (SW _).mono ?_; rintro e w1 ⟨rfl, rfl⟩))
    exact bodyPost_ret (v := .bool false) (by simp [results, Try.results15, go_sem]) rfl ⟨rfl, unhide HB⟩
  have SW := SW0
  clear SW0
  rw [Bool.true_and]
  generalize hOV : Vb.okV (L ini) = OV at *
  clear hOV
  obtain ⟨sz, hsz⟩ : ∃ sz, ini.size = sz := ⟨_, rfl⟩
  rw [hsz] at hi0 ⊢
  by_cases hw : (sz : Int) = width
  rotate_left
  · have n0 : ((sz : Int) != width) = true := bne_iff_ne.2 hw
    rw [decide_eq_false hw, Bool.false_and, Bool.false_and]
    go_enter Try.func15, Try.ntmps15
    go_wp2_with (first | (go_at_call 25; refine (SN _).mono ?_; rintro e w1 ⟨rfl, rfl⟩) | (go_at_call 26; refine (SW _).mono ?_; rintro e w1 ⟨rfl, rfl⟩))
    exact bodyPost_ret (v := .bool false) (by simp [results, Try.results15, go_sem]) rfl ⟨rfl, unhide HB⟩
  have n0 : ((sz : Int) != width) = false := by simp [hw]
  rw [decide_eq_true hw, Bool.true_and]
  clear hw
  obtain ⟨X, hX⟩ : ∃ X, X = W.alloc (.cells #[.string nm, .int .i64 kind, .int .i64 width, .int .i64 depth, .bool sd, .string ini] 38) := ⟨_, rfl⟩
  have HX := hide hX
  rw [← hX] at HB
  have HC := hide (unhide HSB X)
  have HXC : Hid (X.cell? ⟨W.heap.size, 1, none⟩ = some (.int .i64 kind) ∧ X.cell? ⟨W.heap.size, 3, none⟩ = some (.int .i64 depth)) := hide (by
    refine ⟨?_, ?_⟩ <;> (rw [hX, World.cell?_alloc_new]; rfl))
  clear hX HSB
  have START : ∀ (R : Bool), True := fun _ => trivial
  cases OV
  · skip
    go_enter Try.func15, Try.ntmps15
    go_wp2_with (first | (go_at_call 25; refine (SN _).mono ?_; rintro e w1 ⟨rfl, rfl⟩) | (go_at_call 26; refine (SW _).mono ?_; rintro e w1 ⟨rfl, rfl⟩))
    rw [← unhide HX]
    refine (unhide HC).mono ?_
    rintro e V ⟨rfl, hb⟩
    have e1 := cell_later hb (unhide HXC).1
    have e3 := cell_later hb (unhide HXC).2
    have HV := hide (btr (unhide HB) hb)
    clear hb HC
    go_wp2_with fail
    exact bodyPost_ret (v := .bool false) (by simp [results, Try.results15, go_sem]) rfl ⟨rfl, unhide HV⟩
  by_cases k5 : kind = 5
  · subst k5
    by_cases d1 : 1 ≤ depth
    · skip
      go_enter Try.func15, Try.ntmps15
      go_wp2_with (first | (go_at_call 25; refine (SN _).mono ?_; rintro e w1 ⟨rfl, rfl⟩) | (go_at_call 26; refine (SW _).mono ?_; rintro e w1 ⟨rfl, rfl⟩))
      rw [← unhide HX]
      refine (unhide HC).mono ?_
      rintro e V ⟨rfl, hb⟩
      have e1 := cell_later hb (unhide HXC).1
      have e3 := cell_later hb (unhide HXC).2
      have HV := hide (btr (unhide HB) hb)
      clear hb HC
      go_wp2_with fail
      exact bodyPost_ret (v := .bool (decide (depth ≤ 64))) (by simp [results, Try.results15, go_sem]) rfl ⟨by simp [depthB, d1], unhide HV⟩
    · skip
      go_enter Try.func15, Try.ntmps15
      go_wp2_with (first | (go_at_call 25; refine (SN _).mono ?_; rintro e w1 ⟨rfl, rfl⟩) | (go_at_call 26; refine (SW _).mono ?_; rintro e w1 ⟨rfl, rfl⟩))
      rw [← unhide HX]
      refine (unhide HC).mono ?_
      rintro e V ⟨rfl, hb⟩
      have e1 := cell_later hb (unhide HXC).1
      have e3 := cell_later hb (unhide HXC).2
      have HV := hide (btr (unhide HB) hb)
      clear hb HC
      go_wp2_with fail
      exact bodyPost_ret (v := .bool false) (by simp [results, Try.results15, go_sem]) rfl ⟨by simp [depthB]; omega, unhide HV⟩
  · have b5 : (kind == 5) = false := beq_eq_false_iff_ne.2 k5
    have b6 : (kind != 5) = true := bne_iff_ne.2 k5
    go_enter Try.func15, Try.ntmps15
    go_wp2_with (first | (go_at_call 25; refine (SN _).mono ?_; rintro e w1 ⟨rfl, rfl⟩) | (go_at_call 26; refine (SW _).mono ?_; rintro e w1 ⟨rfl, rfl⟩))
    rw [← unhide HX]
    refine (unhide HC).mono ?_
    rintro e V ⟨rfl, hb⟩
    have e1 := cell_later hb (unhide HXC).1
    have e3 := cell_later hb (unhide HXC).2
    have HV := hide (btr (unhide HB) hb)
    clear hb HC
    go_wp2_with fail
    exact bodyPost_ret (v := .bool (depth == 0)) (by simp [results, Try.results15, go_sem]) rfl ⟨by simp [depthB, k5]; rfl, unhide HV⟩
end Go.Proofs.Ytgkfhaahcedbpaa
namespace Go.Proofs.Ytgkfhaahcedbpaa
open Go Go.RowKit
set_option linter.unusedVariables false
section
variable {P : Program} {ops : Array Oper} {a0 : Act} {F : Nat → Value → Prop} {F2 : Nat → World → Value → Prop} {w0 : World} {m : Nat} {A : Value → World → Prop}
abbrev GB (F : Nat → Value → Prop) (F2 : Nat → World → Value → Prop) (m : Nat) (A : Value → World → Prop) : Array Bool → Nat → World → Value → Prop := fun l k w v => F k v ∧ (l.getD m false = false → F2 k w v) ∧ ((k = m ∨ k = m + 1) → A v w)
abbrev JC (w0 : World) (m : Nat) : Array Bool → World → Prop := fun l w => (l.getD m false = false → Below w0.heap.size w0 w)
theorem sb_val {k : Nat} {o : Oper} (hkm : k ≠ m) (hkn : k ≠ m + 1) (hd1 : ∀ l a w, PA ops (GB F F2 m A) (JC w0 m) a0 l a w → l.getD k false = false → l.getD m false = false ∧ l.getD (m + 1) false = false) (hg : o.guard = none) (h : ∀ l a w, PA ops (GB F F2 m A) (JC w0 m) a0 l a w → l.getD (m + 1) false = false → Below w0.heap.size w0 w → (∀ e ∈ o.after, Region.binds .any e = true → l.getD e.on false = true) → ∃ x, (execOp a.eval o).run P w = .ok (.value x) w ∧ F k x ∧ F2 k w x) : Stp P ops (GB F F2 m A) (JC w0 m) a0 k o := by
  intro l a w hp hu ha
  obtain ⟨h1, h2⟩ := hd1 l a w hp (notDoneB hu)
  have hb := hp.j h1
  obtain ⟨x, hr, hf, hf2⟩ := h l a w hp h2 hb ha
  unfold opW
  rw [if_pos (wanted_none hg)]
  exact .inl ⟨x, w, hr, x, rfl, fun _ => hb, ⟨hf, fun _ => hf2, fun e => e.elim (absurd · hkm) (absurd · hkn)⟩, fun j d hd hj hG => ⟨hG.1, fun _ => hG.2.1 h1, hG.2.2⟩⟩
theorem sb_new {k : Nat} {o : Oper} (hL : Lasts F2) (hkm : k ≠ m) (hkn : k ≠ m + 1) (hd1 : ∀ l a w, PA ops (GB F F2 m A) (JC w0 m) a0 l a w → l.getD k false = false → l.getD m false = false ∧ l.getD (m + 1) false = false) (hg : o.guard = none) (h : ∀ l a w, PA ops (GB F F2 m A) (JC w0 m) a0 l a w → l.getD m false = false → Below w0.heap.size w0 w → (∀ e ∈ o.after, Region.binds .any e = true → l.getD e.on false = true) → ∃ x ob, (execOp a.eval o).run P w = .ok (.value x) (w.alloc ob) ∧ F k x ∧ F2 k (w.alloc ob) x) : Stp P ops (GB F F2 m A) (JC w0 m) a0 k o := by
  intro l a w hp hu ha
  obtain ⟨h1, h2⟩ := hd1 l a w hp (notDoneB hu)
  have hb := hp.j h1
  obtain ⟨x, ob, hr, hf, hf2⟩ := h l a w hp h1 hb ha
  unfold opW
  rw [if_pos (wanted_none hg)]
  refine .inl ⟨x, _, hr, x, rfl, fun _ => bal hb ob, ⟨hf, fun _ => hf2, fun e => e.elim (absurd · hkm) (absurd · hkn)⟩, fun j d hd hj hG => ⟨hG.1, fun _ => hL _ _ _ _ (bal (brf w) ob) (hG.2.1 h1), fun e => ?_⟩⟩
  rcases e with e | e
  · subst e; rw [h1] at hj; cases hj
  · subst e; rw [h2] at hj; cases hj
theorem sb_call {k : Nat} {o : Oper} {f : FuncId} (hL : Lasts F2) (hkm : k ≠ m) (hkn : k ≠ m + 1) (hd1 : ∀ l a w, PA ops (GB F F2 m A) (JC w0 m) a0 l a w → l.getD k false = false → l.getD m false = false ∧ l.getD (m + 1) false = false) (hg : o.guard = none) (h : ∀ l a w, PA ops (GB F F2 m A) (JC w0 m) a0 l a w → l.getD m false = false → Below w0.heap.size w0 w → (∀ e ∈ o.after, Region.binds .any e = true → l.getD e.on false = true) → ∃ args, (execOp a.eval o).run P w = .ok (.enter f args) w ∧ Calls P f args w fun e w' => ∃ x, e = .returned x ∧ F k x ∧ F2 k w' x ∧ Below w.heap.size w w') : Stp P ops (GB F F2 m A) (JC w0 m) a0 k o := by
  intro l a w hp hu ha
  obtain ⟨h1, h2⟩ := hd1 l a w hp (notDoneB hu)
  have hb := hp.j h1
  obtain ⟨args, hr, hc⟩ := h l a w hp h1 hb ha
  unfold opW
  rw [if_pos (wanted_none hg)]
  refine .inr (.inr ⟨f, args, w, hr, Calls.mono hc ?_⟩)
  rintro e w' ⟨x, rfl, hf, hf2, hb'⟩
  refine ⟨x, rfl, x, rfl, fun _ => btr hb hb', ⟨hf, fun _ => hf2, fun e => e.elim (absurd · hkm) (absurd · hkn)⟩, fun j d hd hj hG => ⟨hG.1, fun _ => hL _ _ _ _ hb' (hG.2.1 h1), fun e => ?_⟩⟩
  rcases e with e | e
  · subst e; rw [h1] at hj; cases hj
  · subst e; rw [h2] at hj; cases hj
theorem sb_app {o : Oper} (hn : ∀ l a w, PA ops (GB F F2 m A) (JC w0 m) a0 l a w → l.getD m false = false → l.getD (m + 1) false = false) (hg : o.guard = none) (h : ∀ l a w, PA ops (GB F F2 m A) (JC w0 m) a0 l a w → l.getD m false = false → Below w0.heap.size w0 w → (∀ e ∈ o.after, Region.binds .any e = true → l.getD e.on false = true) → ∃ x w', (execOp a.eval o).run P w = .ok (.value x) w' ∧ A x w' ∧ F m x) : Stp P ops (GB F F2 m A) (JC w0 m) a0 m o := by
  intro l a w hp hu ha
  have h1 := notDoneB hu
  have h2 := hn l a w hp h1
  obtain ⟨x, w', hr, hA, hf⟩ := h l a w hp h1 (hp.j h1) ha
  unfold opW
  rw [if_pos (wanted_none hg)]
  refine .inl ⟨x, w', hr, x, rfl, fun e => ?_, ⟨hf, fun e => ?_, fun _ => hA⟩, fun j d hd hj hG => ⟨hG.1, fun e => ?_, fun e => ?_⟩⟩
  · rw [set_own hu] at e; cases e
  · rw [set_own hu] at e; cases e
  · rw [set_own hu] at e; cases e
  · rcases e with e | e
    · subst e; rw [h1] at hj; cases hj
    · subst e; rw [h2] at hj; cases hj
theorem sb_last {o : Oper} {t : Tmp} (hg : o.guard = none) (hd : (ops[m]?).bind (·.dst) = some t) (hon : onB o.after m = true) (h : ∀ l a w, PA ops (GB F F2 m A) (JC w0 m) a0 l a w → (execOp a.eval o).run P w = .ok (.value (a.eval (.tmp t))) w) (hF : ∀ v, F (m + 1) v) : Stp P ops (GB F F2 m A) (JC w0 m) a0 (m + 1) o := by
  intro l a w hp hu ha
  have h1 : l.getD m false = true := onB_spec hon ha
  obtain ⟨om, hom, hdm⟩ := Option.bind_eq_some_iff.1 hd
  have hA := (hp.good m om t hom hdm h1).2.2 (.inl rfl)
  have hr := h l a w hp
  unfold opW
  rw [if_pos (wanted_none hg)]
  have e1 : (l.setIfInBounds (m + 1) true).getD m false = true := by rw [set_oth hu (by omega), h1]
  refine .inl ⟨_, w, hr, _, rfl, fun e => ?_, ⟨hF _, fun e => ?_, fun _ => hA⟩, fun j d hd hj hG => ⟨hG.1, fun e => ?_, hG.2.2⟩⟩
  · rw [e1] at e; cases e
  · rw [e1] at e; cases e
  · rw [e1] at e; cases e
end
end Go.Proofs.Ytgkfhaahcedbpaa
namespace Go.Proofs.Ytgkfhaahcedbpaa
open Go Go.RowKit
set_option linter.unusedVariables false
section
variable {P : Program} {ops : Array Oper} {a0 : Act} {F : Nat → Value → Prop} {F2 : Nat → World → Value → Prop} {w0 : World} {m : Nat} {A : Value → World → Prop}
theorem sb_wcall {o : Oper} {f : FuncId} (hn : ∀ l a w, PA ops (GB F F2 m A) (JC w0 m) a0 l a w → l.getD m false = false → l.getD (m + 1) false = false) (hg : o.guard = none) (h : ∀ l a w, PA ops (GB F F2 m A) (JC w0 m) a0 l a w → l.getD m false = false → Below w0.heap.size w0 w → (∀ e ∈ o.after, Region.binds .any e = true → l.getD e.on false = true) → ∃ args, (execOp a.eval o).run P w = .ok (.enter f args) w ∧ Calls P f args w fun e w' => ∃ x, e = .returned x ∧ A x w' ∧ F m x) : Stp P ops (GB F F2 m A) (JC w0 m) a0 m o := by
  intro l a w hp hu ha
  have h1 := notDoneB hu
  have h2 := hn l a w hp h1
  obtain ⟨args, hr, hc⟩ := h l a w hp h1 (hp.j h1) ha
  unfold opW
  rw [if_pos (wanted_none hg)]
  refine .inr (.inr ⟨f, args, w, hr, Calls.mono hc ?_⟩)
  rintro e w' ⟨x, rfl, hA, hf⟩
  refine ⟨x, rfl, x, rfl, fun e => ?_, ⟨hf, fun e => ?_, fun _ => hA⟩, fun j d hd hj hG => ⟨hG.1, fun e => ?_, fun e => ?_⟩⟩
  · rw [set_own hu] at e; cases e
  · rw [set_own hu] at e; cases e
  · rw [set_own hu] at e; cases e
  · rcases e with e | e
    · subst e; rw [h1] at hj; cases hj
    · subst e; rw [h2] at hj; cases hj
end
end Go.Proofs.Ytgkfhaahcedbpaa
