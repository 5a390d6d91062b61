/- Parts of the proof: RP to PL3. -/
import Derived.Orders
import Derived.Test.YtddlokkejglckaaGreatDoorMNI5
import Derived.Test.YtddlokkejglckaaGreatDoorMPD1
namespace Go.Proofs.YtddlokkejglckaaGreatDoor
open Go
section
variable {P : Program} {ops : Array Oper} {Q : Exit → Act → World → Prop} {md : Region.Mode}
theorem count_set_false {l : Array Bool} {i : Nat} (h : l.getD i true = false) : (l.setIfInBounds i true).toList.count false + 1 = l.toList.count false := by
 have hi : i < l.size := by
   rcases Nat.lt_or_ge i l.size with h' | h'
   · exact h'
   · simp [Array.getD, Nat.not_lt.2 h'] at h
 obtain ⟨xs⟩ := l
 simp at hi h ⊢
 have hx : xs[i] = false := by simpa [hi] using h
 have hc := List.count_set (a := true) (b := false) (l := xs) (i := i) hi
 have hp : 0 < xs.count false := List.count_pos_iff.2 (hx ▸ List.getElem_mem hi)
 rw [hc]; simp [hx]; omega
theorem wpAny_inv (I : Array Bool → Act → World → Prop)
   (hs : ∀ l a w, I l a w → ∀ i, i ∈ Region.ready md ops l → wpOp P ops Q i (I (l.setIfInBounds i true)) a w)
   (hf : ∀ l a w, I l a w → Region.ready md ops l = [] → Q .normal a w) :
   ∀ (fuel : Nat) (l : Array Bool) (a : Act) (w : World), l.toList.count false ≤ fuel → I l a w → wpAny P md ops Q fuel l a w := by
 intro fuel
 induction fuel with
 | zero =>
   intro l a w hc hI
   have hr : Region.ready md ops l = [] := by
     rw [List.eq_nil_iff_forall_not_mem]
     intro i hi
     have := count_set_false (mem_ready.1 hi).1
     omega
   exact ⟨hr, hf l a w hI hr⟩
 | succ fuel ih =>
   intro l a w hc hI
   refine ⟨hf l a w hI, fun i hi => wpOp_mono (fun a' w' h => ih _ _ _ ?_ h) (hs l a w hI i hi)⟩
   have := count_set_false (mem_ready.1 hi).1
   omega
structure PlanAt (ops : Array Oper) (G : Nat → World → Value → Prop) (J : Array Bool → World → Prop) (a0 : Act) (l : Array Bool) (a : Act) (w : World) : Prop where
 sz : l.size = ops.size
 nt : a.tmps.size = a0.tmps.size
 df : a.defers = a0.defers
 down : ∀ i o, ops[i]? = some o → l.getD i false = true → ∀ e ∈ o.after, Region.binds .any e = true → l.getD e.on false = true
 good : ∀ i o d, ops[i]? = some o → o.dst = some d → l.getD i false = true → G i w (a.eval (.tmp d))
 keep : ∀ t, (∀ (i : Nat) o, ops[i]? = some o → o.dst ≠ some t) → a.eval (.tmp t) = a0.eval (.tmp t)
 j : J l w
def PlanStep (P : Program) (ops : Array Oper) (Q : Exit → Act → World → Prop) (G : Nat → World → Value → Prop) (J : Array Bool → World → Prop) (a0 : Act) (k : Nat) (o : Oper) : Prop :=
 ∀ l a w, PlanAt ops G J a0 l a w → l.getD k true = false → (∀ e ∈ o.after, Region.binds .any e = true → l.getD e.on false = true) →
   o.wp P a w (fun a' w' => ∃ v, a' = a.put o.dst v ∧ J (l.setIfInBounds k true) w' ∧ G k w' v ∧ ∀ j u, G j w u → G j w' u) Q
def PlanSteps (P : Program) (ops : Array Oper) (Q : Exit → Act → World → Prop) (G : Nat → World → Value → Prop) (J : Array Bool → World → Prop) (a0 : Act) : Nat → List Oper → Prop
 | _, [] => True
 | k, o :: os => PlanStep P ops Q G J a0 k o ∧ PlanSteps P ops Q G J a0 (k + 1) os
theorem PlanSteps.at {G : Nat → World → Value → Prop} {J : Array Bool → World → Prop} {a0 : Act} : ∀ (os : List Oper) (k i : Nat) (o : Oper), PlanSteps P ops Q G J a0 k os → os[i]? = some o → PlanStep P ops Q G J a0 (k + i) o
 | [], _, _, _, _, h => by simp at h
 | o' :: os, k, 0, o, hs, h => by simp at h; subst h; exact hs.1
 | o' :: os, k, i + 1, o, hs, h => by
   have := PlanSteps.at os (k + 1) i o hs.2 (by simpa using h)
   rwa [Nat.add_right_comm k 1 i, Nat.add_assoc] at this
def planForm (nt : Nat) (ops : Array Oper) : Bool :=
 ops.all (fun o => o.guard.isNone) && (ops.toList.filterMap (·.dst)).all (fun d => decide (d < nt)) && decide ((ops.toList.filterMap (·.dst)).Nodup) &&
   ops.toList.zipIdx.all (fun p => p.1.after.all fun e => !Region.binds .any e || decide (e.on < p.2))
theorem dst_unique : ∀ (os : List Oper), (os.filterMap (·.dst)).Nodup → ∀ (i j : Nat) (oi oj : Oper) (d : Tmp), os[i]? = some oi → os[j]? = some oj → oi.dst = some d → oj.dst = some d → i = j
 | [], _, i, _, _, _, _, h, _, _, _ => by simp at h
 | o :: os, hn, i, j, oi, oj, d, hi, hj, hdi, hdj => by
   have mem : ∀ (k : Nat) (ok : Oper), os[k]? = some ok → ok.dst = some d → d ∈ os.filterMap (·.dst) := fun k ok hk hd =>
     List.mem_filterMap.2 ⟨ok, List.mem_of_getElem? hk, hd⟩
   have hn' : (os.filterMap (·.dst)).Nodup := by
     rw [List.filterMap_cons] at hn
     split at hn
     · exact hn
     · exact (List.nodup_cons.1 hn).2
   cases i with
   | zero =>
     simp at hi; subst hi
     cases j with
     | zero => rfl
     | succ j =>
       simp at hj
       rw [List.filterMap_cons, hdi] at hn
       exact absurd (mem j oj hj hdj) (List.nodup_cons.1 hn).1
   | succ i =>
     simp at hi
     cases j with
     | zero =>
       simp at hj; subst hj
       rw [List.filterMap_cons, hdj] at hn
       exact absurd (mem i oi hi hdi) (List.nodup_cons.1 hn).1
     | succ j =>
       simp at hj
       rw [dst_unique os hn' i j oi oj d hi hj hdi hdj]
theorem eval_put_same {a : Act} {d : Tmp} {v : Value} (h : d < a.tmps.size) : (a.put (some d) v).eval (.tmp d) = v := by
 simp [Act.eval, Act.put, Array.getD, h]
theorem eval_put_other {a : Act} {x : Option Tmp} {t : Tmp} {v : Value} (h : x ≠ some t) : (a.put x v).eval (.tmp t) = a.eval (.tmp t) :=
 Act.eval_put fun d hd e => h (by injection e with e; rw [hd, e])
theorem put_tmps_size (a : Act) (x : Option Tmp) (v : Value) : (a.put x v).tmps.size = a.tmps.size := by cases x <;> simp [Act.put]
theorem put_defers_same (a : Act) (x : Option Tmp) (v : Value) : (a.put x v).defers = a.defers := by cases x <;> rfl
theorem getD_set_ite {l : Array Bool} {i : Nat} (hi : i < l.size) (j : Nat) : (l.setIfInBounds i true).getD j false = (if j = i then true else l.getD j false) := by
 by_cases h : j = i
 · subst h; simp [Array.getD, hi]
 · rw [if_neg h]
   exact getD_set_ne false (fun e => h e.symm)
theorem wp_region_plan {id : Nat} {a0 : Act} {w0 : World} (G : Nat → World → Value → Prop) (J : Array Bool → World → Prop) (hm : P.follows .mixedOrders = true) (nt : Nat) (hnt : a0.tmps.size = nt) (hform : planForm nt ops = true)
   (hj : J (Array.replicate ops.size false) { w0 with drawn := w0.drawn + 1 }) (hs : PlanSteps P ops Q G J a0 0 ops.toList)
   (hf : ∀ l a w, PlanAt ops G J a0 l a w → (∀ i, i < ops.size → l.getD i false = true) → Q .normal a w) :
   (Code.region id ops true).wp P Q a0 w0 := by
 subst hnt
 simp only [planForm, Bool.and_eq_true, decide_eq_true_eq, List.all_eq_true, Array.all_eq_true] at hform
 obtain ⟨⟨⟨hg, hb⟩, hu⟩, hback⟩ := hform
 have hguard : ∀ (i : Nat) o, ops[i]? = some o → o.guard = none := fun i o ho => by
   obtain ⟨h1, h2⟩ := Array.getElem?_eq_some_iff.1 ho
   have := hg i h1
   rw [h2] at this
   simpa using this
 have hbound : ∀ (i : Nat) o d, ops[i]? = some o → o.dst = some d → d < a0.tmps.size := fun i o d ho hd =>
   hb d (List.mem_filterMap.2 ⟨o, List.mem_of_getElem? (by simpa using ho), hd⟩)
 have huniq : ∀ (i j : Nat) oi oj d, ops[i]? = some oi → ops[j]? = some oj → oi.dst = some d → oj.dst = some d → i = j := fun i j oi oj d hi hj' h1 h2 =>
   dst_unique ops.toList hu i j oi oj d (by simpa using hi) (by simpa using hj') h1 h2
 have hedge : ∀ (i : Nat) o, ops[i]? = some o → ∀ e ∈ o.after, Region.binds .any e = true → e.on < i := fun i o ho e he hbi => by
   have hm' : (o, i) ∈ ops.toList.zipIdx := by
     rw [List.mem_zipIdx_iff_getElem?]; simpa using ho
   have := hback (o, i) hm'
   obtain ⟨k, hk, rfl⟩ := Array.mem_iff_getElem.1 he
   have h2 := this k hk
   simp only [Bool.or_eq_true, Bool.not_eq_true', decide_eq_true_eq] at h2
   rcases h2 with h2 | h2
   · rw [hbi] at h2; cases h2
   · exact h2
 refine wp_region_any hm (wpAny_inv (PlanAt ops G J a0) ?_ ?_ _ _ _ _ ?_ ?_)
 · intro l a w hp i hi
   obtain ⟨hun, o, ho, hall⟩ := mem_ready.1 hi
   have hil : i < l.size := by
     rcases Nat.lt_or_ge i l.size with h' | h'
     · exact h'
     · simp [Array.getD, Nat.not_lt.2 h'] at hun
   have hall' : ∀ e ∈ o.after, Region.binds .any e = true → l.getD e.on false = true := hall
   have hst := PlanSteps.at ops.toList 0 i o hs (by simpa using ho)
   rw [Nat.zero_add] at hst
   have h1 := hst l a w hp hun hall'
   unfold wpOp
   have hw : Region.wanted o (yielded ops a.tmps) = true := by simp [Region.wanted, hguard i o ho]
   simp only [ho, hw, if_true]
   refine .inl (Oper.wp_mono ?_ h1)
   rintro a' w' ⟨v, rfl, hj', hgv, hmono⟩
   refine ⟨by simpa using hp.sz, (put_tmps_size a o.dst v).trans hp.nt, (put_defers_same a o.dst v).trans hp.df, ?_, ?_, ?_, hj'⟩
   · intro k ok hk hlk e he hbe
     rw [getD_set_ite hil] at hlk ⊢
     by_cases hke : e.on = i
     · rw [if_pos hke]
     · rw [if_neg hke]
       by_cases hki : k = i
       · subst hki; rw [ho] at hk; cases hk; exact hall' e he hbe
       · rw [if_neg hki] at hlk; exact hp.down k ok hk hlk e he hbe
   · intro k ok d hk hd hlk
     rw [getD_set_ite hil] at hlk
     by_cases hki : k = i
     · subst hki
       rw [ho] at hk; cases hk
       rw [hd, eval_put_same (by rw [hp.nt]; exact hbound k o d ho hd)]
       exact hgv
     · rw [if_neg hki] at hlk
       rw [eval_put_other (fun e => hki (huniq k i ok o d hk ho hd e))]
       exact hmono k _ (hp.good k ok d hk hd hlk)
   · intro t ht
     rw [eval_put_other (ht i o ho)]
     exact hp.keep t ht
 · intro l a w hp hr
   refine hf l a w hp ?_
   intro i
   induction i using Nat.strongRecOn with
   | ind i ih =>
     intro hi
     cases hl : l.getD i false with
     | true => rfl
     | false =>
       exfalso
       have hil : i < l.size := by rw [hp.sz]; exact hi
       have hmem : i ∈ Region.ready .any ops l := by
         refine mem_ready.2 ⟨by simpa [Array.getD, hil] using hl, ops[i], by simp [hi], fun e he hbe => ih e.on (hedge i _ (by simp [hi]) e he hbe) ?_⟩
         exact Nat.lt_trans (hedge i _ (by simp [hi]) e he hbe) hi
       rw [hr] at hmem; cases hmem
 · simp
 · refine ⟨by simp, rfl, rfl, ?_, ?_, fun _ _ => rfl, hj⟩
   · intro i o ho hl
     simp [Array.getD] at hl
   · intro i o d ho hd hl
     simp [Array.getD] at hl
end
end Go.Proofs.YtddlokkejglckaaGreatDoor
namespace Go.Proofs.YtddlokkejglckaaGreatDoor
open Go.RowKit Nt
set_option linter.unusedVariables false
set_option maxRecDepth 100000
theorem rMove (ρ : Operand → Value) (d : Option Tmp) (x : Operand) (ty : TypeId) (pos : String) (af : Array Edge) (w : World) : (execOp ρ ⟨d, .move x, ty, pos, af, none⟩).run Tryz.prog w = .ok (.value (ρ x)) w := by
 go_simp
theorem rField0 (w : World) (kN : Nat) : (Instr.fieldAt 30 (.pointer (some ⟨kN, 0, none⟩)) 0).run Tryz.prog w = .ok (.pointer (some ⟨kN, 0, none⟩)) w := by go_simp
theorem rField1 (w : World) (kN : Nat) : (Instr.fieldAt 30 (.pointer (some ⟨kN, 0, none⟩)) 1).run Tryz.prog w = .ok (.pointer (some ⟨kN, 1, none⟩)) w := by go_simp
theorem rField2 (w : World) (kN : Nat) : (Instr.fieldAt 30 (.pointer (some ⟨kN, 0, none⟩)) 2).run Tryz.prog w = .ok (.pointer (some ⟨kN, 2, none⟩)) w := by go_simp
theorem rField (w : World) (kN f : Nat) (hf : f ≤ 2) : (Instr.fieldAt 30 (.pointer (some ⟨kN, 0, none⟩)) f).run Tryz.prog w = .ok (.pointer (some ⟨kN, f, none⟩)) w := by
 match f, hf with
 | 0, _ => exact rField0 w kN
 | 1, _ => exact rField1 w kN
 | 2, _ => exact rField2 w kN
theorem rLoad28 (w : World) (b o : Nat) (x : Option Addr) (m c : Nat) (h : w.cell? ⟨b, o, none⟩ = some (.slice x m c)) : (Instr.loadAt 28 (.pointer (some ⟨b, o, none⟩))).run Tryz.prog w = .ok (.slice x m c) w := by
 go_simp
theorem rLoad9 (w : World) (b o : Nat) (x : ByteArray) (h : w.cell? ⟨b, o, none⟩ = some (.string x)) : (Instr.loadAt 9 (.pointer (some ⟨b, o, none⟩))).run Tryz.prog w = .ok (.string x) w := by
 go_simp
theorem rLoad30 (w : World) (b o : Nat) (k : Int) (x : ByteArray) (v : Option Addr) (m c : Nat) (h1 : w.cell? ⟨b, o, none⟩ = some (.int .i64 k)) (h2 : w.cell? ⟨b, o + 1, none⟩ = some (.string x)) (h3 : w.cell? ⟨b, o + 2, none⟩ = some (.slice v m c)) : (Instr.loadAt 30 (.pointer (some ⟨b, o, none⟩))).run Tryz.prog w = .ok (.agg #[.int .i64 k, .string x, .slice v m c]) w := by
 go_simp
theorem rIndex (w : World) (b o m c i : Nat) (hi : i < m) (hm : m ≤ maxLen) : (Instr.indexAt 28 (.slice (some ⟨b, o, none⟩) m c) (.int .i64 i)).run Tryz.prog w = .ok (.pointer (some ⟨b, o + i * 3, none⟩)) w := by
 have h1 : (0 : Int) ≤ (i : Int) := by omega
 have h2 : (i : Int) < (m : Int) := by omega
 go_simp
theorem rSliceLo (w : World) (b o m c i : Nat) (hi : i ≤ m) (hm : m ≤ c) (hc : c ≠ i) : (Instr.sliceAt 28 (.slice (some ⟨b, o, none⟩) m c) (some (.int .i64 i)) none none).run Tryz.prog w = .ok (.slice (some ⟨b, o + i * 3, none⟩) (m - i) (c - i)) w := by
 have h1 : (0 : Int) ≤ (i : Int) := by omega
 have h2 : (i : Int) ≤ (m : Int) := by omega
 have h3 : (m : Int) ≤ (c : Int) := by omega
 go_simp
theorem rSliceLo0 (w : World) (b o i : Nat) : (Instr.sliceAt 28 (.slice (some ⟨b, o, none⟩) i i) (some (.int .i64 i)) none none).run Tryz.prog w = .ok (.slice (some ⟨b, o, none⟩) 0 0) w := by
 have h1 : (0 : Int) ≤ (i : Int) := by omega
 go_simp
theorem rSliceHi (w : World) (b o m c i : Nat) (hi : i ≤ c) : (Instr.sliceAt 28 (.slice (some ⟨b, o, none⟩) m c) none (some (.int .i64 i)) none).run Tryz.prog w = .ok (.slice (some ⟨b, o, none⟩) i c) w := by
 have h1 : (0 : Int) ≤ (i : Int) := by omega
 have h2 : (i : Int) ≤ (c : Int) := by omega
 go_simp
theorem rBuild1 (w : World) (x : ByteArray) : (Instr.buildSlice 43 1 #[(0, .string x)]).run Tryz.prog w = .ok (.slice (some ⟨w.heap.size, 0, none⟩) 1 1) (w.alloc (.cells #[.string x] 9)) := by
 go_simp
theorem rBuild2 (w : World) (x y : ByteArray) : (Instr.buildSlice 43 2 #[(0, .string x), (1, .string y)]).run Tryz.prog w = .ok (.slice (some ⟨w.heap.size, 0, none⟩) 2 2) (w.alloc (.cells #[.string x, .string y] 9)) := by
 go_simp
theorem rBuild3 (w : World) (x y z : ByteArray) : (Instr.buildSlice 43 3 #[(0, .string x), (1, .string y), (2, .string z)]).run Tryz.prog w = .ok (.slice (some ⟨w.heap.size, 0, none⟩) 3 3) (w.alloc (.cells #[.string x, .string y, .string z] 9)) := by
 go_simp
def Enters (f : FuncId) : Prop := ∀ args w, (callFunc f args).run Tryz.prog w = .ok (.enter f args) w
theorem enters_of {f : FuncId} {fn : Func} (hf : Tryz.prog.funcs[f]? = some fn) (hn : (fn.name == "runtime.NumGoroutine") = false) (hb : fn.body.isNone = false) : Enters f := fun args w => by
 have h1 : fn.name ≠ "runtime.NumGoroutine" := by simpa using hn
 have h2 : fn.body ≠ none := by intro h; rw [h] at hb; cases hb
 simp [callFunc, hf, h1, h2, go_sem]
theorem enters39 : Enters 39 := enters_of Tryz.func39 (by kernel_rfl) (by kernel_rfl)
theorem enters14 : Enters 14 := enters_of Tryz.func14 (by kernel_rfl) (by kernel_rfl)
theorem enters43 : Enters 43 := enters_of Tryz.func43 (by kernel_rfl) (by kernel_rfl)
theorem enters41 : Enters 41 := enters_of Tryz.func41 (by kernel_rfl) (by kernel_rfl)
theorem enters40 : Enters 40 := enters_of Tryz.func40 (by kernel_rfl) (by kernel_rfl)
theorem enters42 : Enters 42 := enters_of Tryz.func42 (by kernel_rfl) (by kernel_rfl)
theorem rCall2 (ρ : Operand → Value) (d : Option Tmp) (f : FuncId) (hf : Enters f) (x y : Operand) (ats : Array TypeId) (ty : TypeId) (pos : String) (af : Array Edge) (w : World) (hρ : ρ (.func f) = .func (.func f) #[] #[]) : (execOp ρ ⟨d, .call { callee := .value (.func f), args := #[x, y], argTypes := ats }, ty, pos, af, none⟩).run Tryz.prog w = .ok (.enter f #[ρ x, ρ y]) w := by
 simp [go_sem, hρ, hf _ _]
theorem rCall3 (ρ : Operand → Value) (d : Option Tmp) (f : FuncId) (hf : Enters f) (x y z : Operand) (ats : Array TypeId) (ty : TypeId) (pos : String) (af : Array Edge) (w : World) (hρ : ρ (.func f) = .func (.func f) #[] #[]) : (execOp ρ ⟨d, .call { callee := .value (.func f), args := #[x, y, z], argTypes := ats }, ty, pos, af, none⟩).run Tryz.prog w = .ok (.enter f #[ρ x, ρ y, ρ z]) w := by
 simp [go_sem, hρ, hf _ _]
inductive AV where
 | val (v : Value)
 | arr (ts : List Tok)
abbrev aP (pb : Nat) : AV := .val (.pointer (some ⟨pb, 0, none⟩))
abbrev aF (w : World) (f : Nat) : AV := .val (.pointer (some ⟨w.heap.size, f, none⟩))
abbrev aK (n : Nd) (b o c : Nat) : AV := .val (.slice (some ⟨b, o, none⟩) n.kids.length c)
abbrev aS (n : Nd) (a : Option Addr) (c : Nat) : AV := .val (.slice a n.kids.length c)
abbrev aT (n : Nd) : AV := .val (.string (S (L n.text)))
abbrev aI (b o i : Nat) : AV := .val (.pointer (some ⟨b, o + i * 3, none⟩))
abbrev aN (x : Nd) (s : Option Addr) (d : Nat) : AV := .val (.agg #[.int .i64 x.kind, .string x.text, .slice s x.kids.length d])
def GG (pb : Nat) (avs : List AV) (k : Nat) (w : World) (v : Value) : Prop :=
 match avs[k]? with
 | some (.val x) => v = x
 | some (.arr ts) => ∃ M c, v = .slice (some ⟨M, 0, none⟩) ts.length c ∧ Ax pb M ts w
 | none => True
theorem GG.alloc {pb : Nat} {avs : List AV} {k : Nat} {w : World} {v : Value} (h : GG pb avs k w v) (o : Obj) : GG pb avs k (w.alloc o) v := by
 unfold GG at *
 split at h
 · exact h
 · obtain ⟨M, c, h1, h2⟩ := h; exact ⟨M, c, h1, h2.alloc o⟩
 · trivial
theorem GG.next {pb : Nat} {avs : List AV} {k : Nat} {w w' : World} {v : Value} (hn : Nx pb w w') (h : GG pb avs k w v) : GG pb avs k w' v := by
 unfold GG at *
 split at h
 · exact h
 · obtain ⟨M, c, h1, h2⟩ := h; exact ⟨M, c, h1, h2.next hn⟩
 · trivial
def JJ (W0 : World) (pb kN : Nat) (n : Nd) (nv : Value) (w0 : World) (ov0 : Value) (cs : List Nat) (Ts : List (List Tok)) (l : Array Bool) (w : World) : Prop :=
 ∃ c, c ≤ cs.length ∧ (∀ j k, cs[j]? = some k → l.getD k false = decide (j < c)) ∧ Sx W0 pb kN n nv w0 ov0 (Ts.getD c []) w
section
variable {ops : Array Oper} {Q : Exit → Act → World → Prop} {avs : List AV} {W0 : World} {pb kN : Nat} {n : Nd} {nv : Value} {w0 : World} {ov0 : Value} {cs : List Nat} {Ts : List (List Tok)} {a0 : Act}
theorem Sx.drew' {T : List Tok} {W : World} (h : Sx W0 pb kN n nv w0 ov0 T W) : Sx W0 pb kN n nv w0 ov0 T W.drew := by
 obtain ⟨ov, h⟩ := h; exact ⟨ov, h.drew⟩
theorem JJ.other {l : Array Bool} {w w' : World} {k : Nat} (hk : cs.contains k = false) (h : JJ W0 pb kN n nv w0 ov0 cs Ts l w) (hw : ∀ T, Sx W0 pb kN n nv w0 ov0 T w → Sx W0 pb kN n nv w0 ov0 T w') : JJ W0 pb kN n nv w0 ov0 cs Ts (l.setIfInBounds k true) w' := by
 obtain ⟨c, h1, h2, h3⟩ := h
 refine ⟨c, h1, fun j k' hj => ?_, hw _ h3⟩
 have hne : k ≠ k' := fun e => by
   subst e
   have := List.mem_of_getElem? hj
   simp at hk
   exact hk this
 rw [getD_set_ne false hne]
 exact h2 j k' hj
theorem JJ.kx {l : Array Bool} {w : World} (h : JJ W0 pb kN n nv w0 ov0 cs Ts l w) : Kx W0 pb kN n nv w0 ov0 w := by
 obtain ⟨c, _, _, h3⟩ := h; exact ⟨_, h3⟩
abbrev PA (ops : Array Oper) (avs : List AV) (W0 : World) (pb kN : Nat) (n : Nd) (nv : Value) (w0 : World) (ov0 : Value) (cs : List Nat) (Ts : List (List Tok)) (a0 : Act) (l : Array Bool) (a : Act) (w : World) : Prop :=
 PlanAt ops (GG pb avs) (JJ W0 pb kN n nv w0 ov0 cs Ts) a0 l a w
def Kn (ops : Array Oper) (avs : List AV) (W0 : World) (pb kN : Nat) (n : Nd) (nv : Value) (w0 : World) (ov0 : Value) (cs : List Nat) (Ts : List (List Tok)) (a0 : Act) (af : Array Edge) (x : Operand) (v : Value) : Prop :=
 ∀ l a w, PA ops avs W0 pb kN n nv w0 ov0 cs Ts a0 l a w → (∀ e ∈ af, Region.binds .any e = true → l.getD e.on false = true) → a.eval x = v
def KnA (ops : Array Oper) (avs : List AV) (W0 : World) (pb kN : Nat) (n : Nd) (nv : Value) (w0 : World) (ov0 : Value) (cs : List Nat) (Ts : List (List Tok)) (a0 : Act) (af : Array Edge) (x : Operand) (ts : List Tok) : Prop :=
 ∀ l a w, PA ops avs W0 pb kN n nv w0 ov0 cs Ts a0 l a w → (∀ e ∈ af, Region.binds .any e = true → l.getD e.on false = true) → ∃ M c, a.eval x = .slice (some ⟨M, 0, none⟩) ts.length c ∧ Ax pb M ts w
def onB (af : Array Edge) (j : Nat) : Bool := af.toList.any fun e => Region.binds .any e && decide (e.on = j)
theorem onB_spec {af : Array Edge} {j : Nat} (h : onB af j = true) {l : Array Bool} (ha : ∀ e ∈ af, Region.binds .any e = true → l.getD e.on false = true) : l.getD j false = true := by
 unfold onB at h
 rw [List.any_eq_true] at h
 obtain ⟨e, hm, he⟩ := h
 rw [Bool.and_eq_true, decide_eq_true_eq] at he
 have := ha e (by simpa using hm) he.1
 rwa [he.2] at this
theorem Kn.tmp {af : Array Edge} {d : Tmp} (j : Nat) {v : Value} (hj : (ops[j]?).bind (·.dst) = some d) (he : onB af j = true) (hv : avs[j]? = some (.val v)) : Kn ops avs W0 pb kN n nv w0 ov0 cs Ts a0 af (.tmp d) v := by
 intro l a w hp ha
 obtain ⟨o, ho, hd⟩ := Option.bind_eq_some_iff.1 hj
 have h := hp.good j o d ho hd (onB_spec he ha)
 simpa [GG, hv] using h
theorem KnA.tmp {af : Array Edge} {d : Tmp} (j : Nat) {ts : List Tok} (hj : (ops[j]?).bind (·.dst) = some d) (he : onB af j = true) (hv : avs[j]? = some (.arr ts)) : KnA ops avs W0 pb kN n nv w0 ov0 cs Ts a0 af (.tmp d) ts := by
 intro l a w hp ha
 obtain ⟨o, ho, hd⟩ := Option.bind_eq_some_iff.1 hj
 have h := hp.good j o d ho hd (onB_spec he ha)
 simpa [GG, hv] using h
theorem Kn.old {af : Array Edge} {d : Tmp} {v : Value} (hd : ops.toList.all (fun o => o.dst != some d) = true) (hv : a0.eval (.tmp d) = v) : Kn ops avs W0 pb kN n nv w0 ov0 cs Ts a0 af (.tmp d) v := by
 intro l a w hp ha
 rw [hp.keep d (fun i o ho e => ?_)]
 · exact hv
 · rw [List.all_eq_true] at hd
   have := hd o (List.mem_of_getElem? (by simpa using ho))
   rw [e] at this
   simp at this
theorem Kn.const {af : Array Edge} (v : Value) : Kn ops avs W0 pb kN n nv w0 ov0 cs Ts a0 af (.const v) v := fun _ _ _ _ _ => rfl
theorem ps_val {k : Nat} {o : Oper} (hk : cs.contains k = false) {x : Value} (hx : avs[k]? = some (.val x))
   (hrun : ∀ l a w, PA ops avs W0 pb kN n nv w0 ov0 cs Ts a0 l a w → (∀ e ∈ o.after, Region.binds .any e = true → l.getD e.on false = true) → (execOp a.eval o).run Tryz.prog w = .ok (.value x) w) :
   PlanStep Tryz.prog ops Q (GG pb avs) (JJ W0 pb kN n nv w0 ov0 cs Ts) a0 k o := by
 intro l a w hp hu ha
 unfold Oper.wp
 rw [hrun l a w hp ha]
 exact ⟨x, rfl, hp.j.other hk (fun T h => h), by simp [GG, hx], fun j u h => h⟩
theorem ps_move {k : Nat} {d : Option Tmp} {x : Operand} {ty : TypeId} {pos : String} {af : Array Edge} {v : Value} (hk : cs.contains k = false) (hx : avs[k]? = some (.val v)) (h : Kn ops avs W0 pb kN n nv w0 ov0 cs Ts a0 af x v) :
   PlanStep Tryz.prog ops Q (GG pb avs) (JJ W0 pb kN n nv w0 ov0 cs Ts) a0 k ⟨d, .move x, ty, pos, af, none⟩ :=
 ps_val hk hx fun l a w hp ha => by rw [rMove, h l a w hp ha]
theorem ps_field {k : Nat} {d : Option Tmp} {x : Operand} {ty : TypeId} {pos : String} {af : Array Edge} {b f : Nat} (hk : cs.contains k = false) (hx : avs[k]? = some (.val (.pointer (some ⟨b, f, none⟩)))) (hf : f ≤ 2) (h : Kn ops avs W0 pb kN n nv w0 ov0 cs Ts a0 af x (.pointer (some ⟨b, 0, none⟩))) :
   PlanStep Tryz.prog ops Q (GG pb avs) (JJ W0 pb kN n nv w0 ov0 cs Ts) a0 k ⟨d, .fieldAddr 30 x f, ty, pos, af, none⟩ :=
 ps_val hk hx fun l a w hp ha => by
   show ((do pure (.value (← Instr.fieldAt 30 (a.eval x) f)) : Sem Next)).run Tryz.prog w = _
   rw [h l a w hp ha]; simp [rField w b f hf]
theorem ps_load28 {k : Nat} {d : Option Tmp} {x : Operand} {ty : TypeId} {pos : String} {af : Array Edge} {b o : Nat} {y : Option Addr} {m c : Nat} (hk : cs.contains k = false) (hx : avs[k]? = some (.val (.slice y m c))) (h : Kn ops avs W0 pb kN n nv w0 ov0 cs Ts a0 af x (.pointer (some ⟨b, o, none⟩))) (hc : ∀ w, Kx W0 pb kN n nv w0 ov0 w → w.cell? ⟨b, o, none⟩ = some (.slice y m c)) :
   PlanStep Tryz.prog ops Q (GG pb avs) (JJ W0 pb kN n nv w0 ov0 cs Ts) a0 k ⟨d, .load 28 x, ty, pos, af, none⟩ :=
 ps_val hk hx fun l a w hp ha => by
   show ((do pure (.value (← Instr.loadAt 28 (a.eval x))) : Sem Next)).run Tryz.prog w = _
   rw [h l a w hp ha]; simp [rLoad28 w b o y m c (hc w hp.j.kx)]
theorem ps_load9 {k : Nat} {d : Option Tmp} {x : Operand} {ty : TypeId} {pos : String} {af : Array Edge} {b o : Nat} {y : ByteArray} (hk : cs.contains k = false) (hx : avs[k]? = some (.val (.string y))) (h : Kn ops avs W0 pb kN n nv w0 ov0 cs Ts a0 af x (.pointer (some ⟨b, o, none⟩))) (hc : ∀ w, Kx W0 pb kN n nv w0 ov0 w → w.cell? ⟨b, o, none⟩ = some (.string y)) :
   PlanStep Tryz.prog ops Q (GG pb avs) (JJ W0 pb kN n nv w0 ov0 cs Ts) a0 k ⟨d, .load 9 x, ty, pos, af, none⟩ :=
 ps_val hk hx fun l a w hp ha => by
   show ((do pure (.value (← Instr.loadAt 9 (a.eval x))) : Sem Next)).run Tryz.prog w = _
   rw [h l a w hp ha]; simp [rLoad9 w b o y (hc w hp.j.kx)]
theorem ps_load30 {k : Nat} {d : Option Tmp} {x : Operand} {ty : TypeId} {pos : String} {af : Array Edge} {b o : Nat} {kd : Int} {tx : ByteArray} {y : Option Addr} {m c : Nat} (hk : cs.contains k = false) (hx : avs[k]? = some (.val (.agg #[.int .i64 kd, .string tx, .slice y m c]))) (h : Kn ops avs W0 pb kN n nv w0 ov0 cs Ts a0 af x (.pointer (some ⟨b, o, none⟩)))
   (hc1 : ∀ w, Kx W0 pb kN n nv w0 ov0 w → w.cell? ⟨b, o, none⟩ = some (.int .i64 kd)) (hc2 : ∀ w, Kx W0 pb kN n nv w0 ov0 w → w.cell? ⟨b, o + 1, none⟩ = some (.string tx)) (hc3 : ∀ w, Kx W0 pb kN n nv w0 ov0 w → w.cell? ⟨b, o + 2, none⟩ = some (.slice y m c)) :
   PlanStep Tryz.prog ops Q (GG pb avs) (JJ W0 pb kN n nv w0 ov0 cs Ts) a0 k ⟨d, .load 30 x, ty, pos, af, none⟩ :=
 ps_val hk hx fun l a w hp ha => by
   show ((do pure (.value (← Instr.loadAt 30 (a.eval x))) : Sem Next)).run Tryz.prog w = _
   rw [h l a w hp ha]; simp [rLoad30 w b o kd tx y m c (hc1 w hp.j.kx) (hc2 w hp.j.kx) (hc3 w hp.j.kx)]
theorem ps_index {k : Nat} {d : Option Tmp} {x ix : Operand} {ty : TypeId} {pos : String} {af : Array Edge} {b o m c i : Nat} (hk : cs.contains k = false) (hx : avs[k]? = some (.val (.pointer (some ⟨b, o + i * 3, none⟩)))) (hi : i < m) (hm : m ≤ maxLen) (h : Kn ops avs W0 pb kN n nv w0 ov0 cs Ts a0 af x (.slice (some ⟨b, o, none⟩) m c)) (h' : Kn ops avs W0 pb kN n nv w0 ov0 cs Ts a0 af ix (.int .i64 i)) :
   PlanStep Tryz.prog ops Q (GG pb avs) (JJ W0 pb kN n nv w0 ov0 cs Ts) a0 k ⟨d, .indexAddr 28 x ix, ty, pos, af, none⟩ :=
 ps_val hk hx fun l a w hp ha => by
   show ((do pure (.value (← Instr.indexAt 28 (a.eval x) (a.eval ix))) : Sem Next)).run Tryz.prog w = _
   rw [h l a w hp ha, h' l a w hp ha]; simp [rIndex w b o m c i hi hm]
theorem ps_sliceLo {k : Nat} {d : Option Tmp} {x : Operand} {i : Nat} {ty : TypeId} {pos : String} {af : Array Edge} {b o m c : Nat} (hk : cs.contains k = false) (hx : avs[k]? = some (.val (.slice (some ⟨b, o + i * 3, none⟩) (m - i) (c - i)))) (hi : i ≤ m) (hm : m ≤ c) (hc : c ≠ i) (h : Kn ops avs W0 pb kN n nv w0 ov0 cs Ts a0 af x (.slice (some ⟨b, o, none⟩) m c)) :
   PlanStep Tryz.prog ops Q (GG pb avs) (JJ W0 pb kN n nv w0 ov0 cs Ts) a0 k ⟨d, .slice 28 x (some (.const (.int .i64 i))) none none, ty, pos, af, none⟩ :=
 ps_val hk hx fun l a w hp ha => by
   show ((do pure (.value (← Instr.sliceAt 28 (a.eval x) (some (.int .i64 i)) none none)) : Sem Next)).run Tryz.prog w = _
   rw [h l a w hp ha]; simp [rSliceLo w b o m c i hi hm hc]
theorem ps_sliceLo0 {k : Nat} {d : Option Tmp} {x : Operand} {i : Nat} {ty : TypeId} {pos : String} {af : Array Edge} {b o : Nat} (hk : cs.contains k = false) (hx : avs[k]? = some (.val (.slice (some ⟨b, o, none⟩) 0 0))) (h : Kn ops avs W0 pb kN n nv w0 ov0 cs Ts a0 af x (.slice (some ⟨b, o, none⟩) i i)) :
   PlanStep Tryz.prog ops Q (GG pb avs) (JJ W0 pb kN n nv w0 ov0 cs Ts) a0 k ⟨d, .slice 28 x (some (.const (.int .i64 i))) none none, ty, pos, af, none⟩ :=
 ps_val hk hx fun l a w hp ha => by
   show ((do pure (.value (← Instr.sliceAt 28 (a.eval x) (some (.int .i64 i)) none none)) : Sem Next)).run Tryz.prog w = _
   rw [h l a w hp ha]; simp [rSliceLo0 w b o i]
theorem ps_sliceHi {k : Nat} {d : Option Tmp} {x y : Operand} {i : Nat} {ty : TypeId} {pos : String} {af : Array Edge} {b o m c : Nat} (hk : cs.contains k = false) (hx : avs[k]? = some (.val (.slice (some ⟨b, o, none⟩) i c))) (hi : i ≤ c) (h : Kn ops avs W0 pb kN n nv w0 ov0 cs Ts a0 af x (.slice (some ⟨b, o, none⟩) m c)) (h' : Kn ops avs W0 pb kN n nv w0 ov0 cs Ts a0 af y (.int .i64 i)) :
   PlanStep Tryz.prog ops Q (GG pb avs) (JJ W0 pb kN n nv w0 ov0 cs Ts) a0 k ⟨d, .slice 28 x none (some y) none, ty, pos, af, none⟩ :=
 ps_val hk hx fun l a w hp ha => by
   show ((do pure (.value (← Instr.sliceAt 28 (a.eval x) none (some (a.eval y)) none)) : Sem Next)).run Tryz.prog w = _
   rw [h l a w hp ha, h' l a w hp ha]; simp [rSliceHi w b o m c i hi]
theorem ps_arr {k : Nat} {o : Oper} (hk : cs.contains k = false) {ts : List Tok} (hx : avs[k]? = some (.arr ts))
   (hrun : ∀ l a w, PA ops avs W0 pb kN n nv w0 ov0 cs Ts a0 l a w → (∀ e ∈ o.after, Region.binds .any e = true → l.getD e.on false = true) → (execOp a.eval o).run Tryz.prog w = .ok (.value (.slice (some ⟨w.heap.size, 0, none⟩) ts.length ts.length)) (w.alloc (.cells (ts.map tv).toArray 9))) :
   PlanStep Tryz.prog ops Q (GG pb avs) (JJ W0 pb kN n nv w0 ov0 cs Ts) a0 k o := by
 intro l a w hp hu ha
 unfold Oper.wp
 rw [hrun l a w hp ha]
 refine ⟨_, rfl, hp.j.other hk (fun T h => h.alloc _), ?_, fun j u h => h.alloc _⟩
 simp only [GG, hx]
 exact ⟨w.heap.size, ts.length, rfl, Ax.new hp.j.kx.px rfl rfl⟩
theorem ps_arr1 {k : Nat} {d : Option Tmp} {x : Operand} {ty : TypeId} {pos : String} {af : Array Edge} {t : Tok} (hk : cs.contains k = false) (hx : avs[k]? = some (.arr [t])) (h : Kn ops avs W0 pb kN n nv w0 ov0 cs Ts a0 af x (.string (S t))) :
   PlanStep Tryz.prog ops Q (GG pb avs) (JJ W0 pb kN n nv w0 ov0 cs Ts) a0 k ⟨d, .buildSlice 43 1 #[(0, x)], ty, pos, af, none⟩ :=
 ps_arr hk hx fun l a w hp ha => by
   simp [execOp, h l a w hp ha, rBuild1 w, tv]
theorem ps_arr2 {k : Nat} {d : Option Tmp} {x y : Operand} {ty : TypeId} {pos : String} {af : Array Edge} {t s : Tok} (hk : cs.contains k = false) (hx : avs[k]? = some (.arr [t, s])) (h : Kn ops avs W0 pb kN n nv w0 ov0 cs Ts a0 af x (.string (S t))) (h' : Kn ops avs W0 pb kN n nv w0 ov0 cs Ts a0 af y (.string (S s))) :
   PlanStep Tryz.prog ops Q (GG pb avs) (JJ W0 pb kN n nv w0 ov0 cs Ts) a0 k ⟨d, .buildSlice 43 2 #[(0, x), (1, y)], ty, pos, af, none⟩ :=
 ps_arr hk hx fun l a w hp ha => by
   simp [execOp, h l a w hp ha, h' l a w hp ha, rBuild2 w, tv]
theorem ps_arr3 {k : Nat} {d : Option Tmp} {x y z : Operand} {ty : TypeId} {pos : String} {af : Array Edge} {t s r : Tok} (hk : cs.contains k = false) (hx : avs[k]? = some (.arr [t, s, r])) (h : Kn ops avs W0 pb kN n nv w0 ov0 cs Ts a0 af x (.string (S t))) (h' : Kn ops avs W0 pb kN n nv w0 ov0 cs Ts a0 af y (.string (S s))) (h'' : Kn ops avs W0 pb kN n nv w0 ov0 cs Ts a0 af z (.string (S r))) :
   PlanStep Tryz.prog ops Q (GG pb avs) (JJ W0 pb kN n nv w0 ov0 cs Ts) a0 k ⟨d, .buildSlice 43 3 #[(0, x), (1, y), (2, z)], ty, pos, af, none⟩ :=
 ps_arr hk hx fun l a w hp ha => by
   simp [execOp, h l a w hp ha, h' l a w hp ha, h'' l a w hp ha, rBuild3 w, tv]
def prevOK (cs : List Nat) (q : Nat) (af : Array Edge) : Bool :=
 match q with
 | 0 => true
 | q' + 1 => ((cs[q']?).map (onB af)).getD false
theorem ps_call {k : Nat} {o : Oper} (q : Nat) (hq : cs[q]? = some k) (hnd : cs.Nodup) (hpv : prevOK cs q o.after = true) {f : FuncId} (hx : avs[k]? = some (.val (.pointer (some ⟨pb, 0, none⟩))))
   (hrun : ∀ l a w, PA ops avs W0 pb kN n nv w0 ov0 cs Ts a0 l a w → (∀ e ∈ o.after, Region.binds .any e = true → l.getD e.on false = true) → Sx W0 pb kN n nv w0 ov0 (Ts.getD q []) w → ∃ args, (execOp a.eval o).run Tryz.prog w = .ok (.enter f args) w ∧
     Calls Tryz.prog f args w fun e w' => e = .returned (.pointer (some ⟨pb, 0, none⟩)) ∧ Sx W0 pb kN n nv w0 ov0 (Ts.getD (q + 1) []) w' ∧ Nx pb w w') :
   PlanStep Tryz.prog ops Q (GG pb avs) (JJ W0 pb kN n nv w0 ov0 cs Ts) a0 k o := by
 intro l a w hp hu ha
 obtain ⟨c, hc, hl, hs⟩ := hp.j
 have hql : q < cs.length := (List.getElem?_eq_some_iff.1 hq).1
 have hcq : c = q := by
   have h1 : ¬ q < c := by
     intro h
     have := hl q k hq
     rw [decide_eq_true h] at this
     simp only [Array.getD] at this hu
     split at hu
     · rename_i hlt; rw [dif_pos hlt] at this; rw [this] at hu; cases hu
     · cases hu
   cases q with
   | zero => omega
   | succ q' =>
     have hlt : q' < cs.length := by omega
     have hg : cs[q']? = some cs[q'] := List.getElem?_eq_getElem hlt
     simp only [prevOK, hg, Option.map_some, Option.getD_some] at hpv
     have h2 := onB_spec hpv ha
     rw [hl q' _ hg] at h2
     have := of_decide_eq_true h2
     omega
 subst hcq
 obtain ⟨args, hr, hcall⟩ := hrun l a w hp ha hs
 unfold Oper.wp
 rw [hr]
 refine Calls.mono hcall ?_
 rintro e w' ⟨rfl, hs', hn⟩
 refine ⟨_, rfl, ⟨c + 1, hql, fun j k' hj => ?_, hs'⟩, by simp [GG, hx], fun j u h => h.next hn⟩
 by_cases hjc : j = c
 · subst hjc
   rw [hq] at hj; cases hj
   have hkl : k < l.size := by
     rcases Nat.lt_or_ge k l.size with h' | h'
     · exact h'
     · simp [Array.getD, Nat.not_lt.2 h'] at hu
   rw [getD_set_ite hkl, if_pos rfl]; simp
 · have hne : k ≠ k' := fun e => by
     subst e
     obtain ⟨h1, h2⟩ := List.getElem?_eq_some_iff.1 hq
     obtain ⟨h3, h4⟩ := List.getElem?_eq_some_iff.1 hj
     have hpw := List.pairwise_iff_getElem.1 hnd
     rcases Nat.lt_or_gt_of_ne hjc with hlt | hlt
     · exact hpw j c h3 h1 hlt (h4.trans h2.symm)
     · exact hpw c j h1 h3 hlt (h2.trans h4.symm)
   rw [getD_set_ne false hne, hl j k' hj]
   simp; omega
theorem ps_put {k : Nat} {d : Option Tmp} {x y : Operand} {ats : Array TypeId} {ty : TypeId} {pos : String} {af : Array Edge} (q : Nat) (hq : cs[q]? = some k) (hnd : cs.Nodup) (hpv : prevOK cs q af = true) (hx : avs[k]? = some (.val (.pointer (some ⟨pb, 0, none⟩)))) {ts : List Tok}
   (h1 : Kn ops avs W0 pb kN n nv w0 ov0 cs Ts a0 af x (.pointer (some ⟨pb, 0, none⟩))) (h2 : KnA ops avs W0 pb kN n nv w0 ov0 cs Ts a0 af y ts) (hp : W0.heap.size ≤ pb) (hT : Ts.getD (q + 1) [] = Ts.getD q [] ++ ts) (hz : sizeT (Ts.getD (q + 1) []) ≤ 1099511627776) :
   PlanStep Tryz.prog ops Q (GG pb avs) (JJ W0 pb kN n nv w0 ov0 cs Ts) a0 k ⟨d, .call { callee := .value (.func 39), args := #[x, y], argTypes := ats }, ty, pos, af, none⟩ :=
 ps_call (f := 39) q hq hnd hpv hx fun l a w hpa ha hs => by
   obtain ⟨M, c, hy, hA⟩ := h2 l a w hpa ha
   refine ⟨_, rCall2 a.eval d 39 enters39 x y ats ty pos af w rfl, ?_⟩
   rw [h1 l a w hpa ha, hy, hT]
   exact sx_put hp ts (hT ▸ hz) M c w hs hA
theorem ps_part {k : Nat} {d : Option Tmp} {f : FuncId} {x y : Operand} {ats : Array TypeId} {ty : TypeId} {pos : String} {af : Array Edge} (q : Nat) (hq : cs[q]? = some k) (hnd : cs.Nodup) (hpv : prevOK cs q af = true) (hx : avs[k]? = some (.val (.pointer (some ⟨pb, 0, none⟩)))) (hf : Enters f) {U : List Tok} (hT : Ts.getD (q + 1) [] = U) {v : Value}
   (h1 : Kn ops avs W0 pb kN n nv w0 ov0 cs Ts a0 af x (.pointer (some ⟨pb, 0, none⟩))) (h2 : Kn ops avs W0 pb kN n nv w0 ov0 cs Ts a0 af y v)
   (hc : ∀ w, Sx W0 pb kN n nv w0 ov0 (Ts.getD q []) w → Calls Tryz.prog f #[.pointer (some ⟨pb, 0, none⟩), v] w fun e w' => e = .returned (.pointer (some ⟨pb, 0, none⟩)) ∧ Sx W0 pb kN n nv w0 ov0 U w' ∧ Nx pb w w') :
   PlanStep Tryz.prog ops Q (GG pb avs) (JJ W0 pb kN n nv w0 ov0 cs Ts) a0 k ⟨d, .call { callee := .value (.func f), args := #[x, y], argTypes := ats }, ty, pos, af, none⟩ :=
 ps_call (f := f) q hq hnd hpv hx fun l a w hpa ha hs => by
   refine ⟨_, rCall2 a.eval d f hf x y ats ty pos af w rfl, ?_⟩
   rw [h1 l a w hpa ha, h2 l a w hpa ha]
   rw [hT]
   exact hc w hs
theorem ps_part3 {k : Nat} {d : Option Tmp} {f : FuncId} {x y z : Operand} {ats : Array TypeId} {ty : TypeId} {pos : String} {af : Array Edge} (q : Nat) (hq : cs[q]? = some k) (hnd : cs.Nodup) (hpv : prevOK cs q af = true) (hx : avs[k]? = some (.val (.pointer (some ⟨pb, 0, none⟩)))) (hf : Enters f) {U : List Tok} (hT : Ts.getD (q + 1) [] = U) {u v : Value}
   (h1 : Kn ops avs W0 pb kN n nv w0 ov0 cs Ts a0 af x (.pointer (some ⟨pb, 0, none⟩))) (h2 : Kn ops avs W0 pb kN n nv w0 ov0 cs Ts a0 af y u) (h3 : Kn ops avs W0 pb kN n nv w0 ov0 cs Ts a0 af z v)
   (hc : ∀ w, Sx W0 pb kN n nv w0 ov0 (Ts.getD q []) w → Calls Tryz.prog f #[.pointer (some ⟨pb, 0, none⟩), u, v] w fun e w' => e = .returned (.pointer (some ⟨pb, 0, none⟩)) ∧ Sx W0 pb kN n nv w0 ov0 U w' ∧ Nx pb w w') :
   PlanStep Tryz.prog ops Q (GG pb avs) (JJ W0 pb kN n nv w0 ov0 cs Ts) a0 k ⟨d, .call { callee := .value (.func f), args := #[x, y, z], argTypes := ats }, ty, pos, af, none⟩ :=
 ps_call (f := f) q hq hnd hpv hx fun l a w hpa ha hs => by
   refine ⟨_, rCall3 a.eval d f hf x y z ats ty pos af w rfl, ?_⟩
   rw [h1 l a w hpa ha, h2 l a w hpa ha, h3 l a w hpa ha]
   rw [hT]
   exact hc w hs
theorem region_printsK {id : Nat} {w : World} (avs : List AV) (cs : List Nat) (Ts : List (List Tok)) (nt : Nat) (hnt : a0.tmps.size = nt) (hform : planForm nt ops = true) (hcs : cs.all (fun k => decide (k < ops.size)) = true)
   (h0 : Sx W0 pb kN n nv w0 ov0 (Ts.getD 0 []) w) (hs : PlanSteps Tryz.prog ops Q (GG pb avs) (JJ W0 pb kN n nv w0 ov0 cs Ts) a0 0 ops.toList)
   (hf : ∀ a w', a.tmps.size = nt → a.defers = a0.defers → (∀ t, ops.all (fun o => o.dst != some t) = true → a.eval (.tmp t) = a0.eval (.tmp t)) → Sx W0 pb kN n nv w0 ov0 (Ts.getD cs.length []) w' → Q .normal a w') :
   (Code.region id ops true).wp Tryz.prog Q a0 w := by
 refine wp_region_plan (GG pb avs) (JJ W0 pb kN n nv w0 ov0 cs Ts) (by kernel_rfl) nt hnt hform ⟨0, Nat.zero_le _, fun j k hj => by simp [Array.getD], h0.drew'⟩ hs ?_
 intro l a w' hp hall
 obtain ⟨c, hc, hl, hs'⟩ := hp.j
 have : c = cs.length := by
   rcases Nat.lt_or_ge c cs.length with h | h
   · exfalso
     have hg : cs[c]? = some cs[c] := List.getElem?_eq_getElem h
     have h1 := hl c _ hg
     rw [hall cs[c] ?_] at h1
     · simp at h1
     · rw [List.all_eq_true] at hcs
       exact of_decide_eq_true (hcs _ (List.getElem_mem h))
   · omega
 subst this
 refine hf a w' (hp.nt.trans hnt) hp.df (fun t ht => hp.keep t (fun i o ho e => ?_)) hs'
 rw [Array.all_eq_true] at ht
 obtain ⟨h1, h2⟩ := Array.getElem?_eq_some_iff.1 ho
 have := ht i h1
 rw [h2, e] at this
 simp at this
theorem region_prints {id : Nat} {w : World} (avs : List AV) (cs : List Nat) (Ts : List (List Tok)) (nt : Nat) (hnt : a0.tmps.size = nt) (hform : planForm nt ops = true) (hcs : cs.all (fun k => decide (k < ops.size)) = true)
   (h0 : Sx W0 pb kN n nv w0 ov0 (Ts.getD 0 []) w) (hs : PlanSteps Tryz.prog ops Q (GG pb avs) (JJ W0 pb kN n nv w0 ov0 cs Ts) a0 0 ops.toList)
   (hf : ∀ a w', a.tmps.size = nt → a.defers = a0.defers → Sx W0 pb kN n nv w0 ov0 (Ts.getD cs.length []) w' → Q .normal a w') :
   (Code.region id ops true).wp Tryz.prog Q a0 w :=
 region_printsK avs cs Ts nt hnt hform hcs h0 hs fun a w' h1 h2 _ h3 => hf a w' h1 h2 h3
end
end Go.Proofs.YtddlokkejglckaaGreatDoor
namespace Go.Proofs.YtddlokkejglckaaGreatDoor
open Go
section
variable {P : Program} {ops : Array Oper} {Q : Exit → Act → World → Prop}
theorem wp_region_text {id : Nat} {a0 : Act} {w0 : World} (G : Nat → World → Value → Prop) (J : Array Bool → World → Prop) (nt : Nat) (hnt : a0.tmps.size = nt) (hform : planForm nt ops = true)
   (hj : J (Array.replicate ops.size false) w0) (hs : PlanSteps P ops Q G J a0 0 ops.toList)
   (hf : ∀ l a w, PlanAt ops G J a0 l a w → (∀ i, i < ops.size → l.getD i false = true) → Q .normal a w) :
   (Code.region id ops false).wp P Q a0 w0 := by
 subst hnt
 simp only [planForm, Bool.and_eq_true, decide_eq_true_eq, List.all_eq_true, Array.all_eq_true] at hform
 obtain ⟨⟨⟨hg, hb⟩, hu⟩, hback⟩ := hform
 have hguard : ∀ (i : Nat) o, ops[i]? = some o → o.guard = none := fun i o ho => by
   obtain ⟨h1, h2⟩ := Array.getElem?_eq_some_iff.1 ho
   have := hg i h1
   rw [h2] at this
   simpa using this
 have hbound : ∀ (i : Nat) o d, ops[i]? = some o → o.dst = some d → d < a0.tmps.size := fun i o d ho hd =>
   hb d (List.mem_filterMap.2 ⟨o, List.mem_of_getElem? (by simpa using ho), hd⟩)
 have huniq : ∀ (i j : Nat) oi oj d, ops[i]? = some oi → ops[j]? = some oj → oi.dst = some d → oj.dst = some d → i = j := fun i j oi oj d hi hj' h1 h2 =>
   dst_unique ops.toList hu i j oi oj d (by simpa using hi) (by simpa using hj') h1 h2
 have hedge : ∀ (i : Nat) o, ops[i]? = some o → ∀ e ∈ o.after, Region.binds .any e = true → e.on < i := fun i o ho e he hbi => by
   have hm' : (o, i) ∈ ops.toList.zipIdx := by
     rw [List.mem_zipIdx_iff_getElem?]; simpa using ho
   have := hback (o, i) hm'
   obtain ⟨k, hk, rfl⟩ := Array.mem_iff_getElem.1 he
   have h2 := this k hk
   simp only [Bool.or_eq_true, Bool.not_eq_true', decide_eq_true_eq] at h2
   rcases h2 with h2 | h2
   · rw [hbi] at h2; cases h2
   · exact h2
 have main : ∀ (m k : Nat) (l : Array Bool) (a : Act) (w : World), k + m = ops.size → (∀ i, i < ops.size → (l.getD i false = true ↔ i < k)) → PlanAt ops G J a0 l a w → wpOps P ops Q (List.range' k m) a w := by
   intro m
   induction m with
   | zero =>
     intro k l a w hk hl hp
     exact hf l a w hp fun i hi => (hl i hi).2 (by omega)
   | succ m ih =>
     intro k l a w hk hl hp
     have hkn : k < ops.size := by omega
     have hkl : k < l.size := by rw [hp.sz]; exact hkn
     have ho : ops[k]? = some ops[k] := by simp [hkn]
     have hlk : l.getD k false = false := by
       cases h : l.getD k false with
       | false => rfl
       | true => exact absurd ((hl k hkn).1 h) (Nat.lt_irrefl k)
     have hun : l.getD k true = false := by simpa [Array.getD, hkl] using hlk
     generalize ops[k] = o at ho
     have hall : ∀ e ∈ o.after, Region.binds .any e = true → l.getD e.on false = true := fun e he hbe => by
       have := hedge k o ho e he hbe
       exact (hl e.on (by omega)).2 this
     have hst := PlanSteps.at ops.toList 0 k o hs (by simpa using ho)
     rw [Nat.zero_add] at hst
     have h1 := hst l a w hp hun hall
     rw [List.range'_succ, wpOps_cons]
     unfold wpOp
     have hw : Region.wanted o (yielded ops a.tmps) = true := by simp [Region.wanted, hguard k o ho]
     simp only [ho, hw, if_true]
     refine .inl (Oper.wp_mono ?_ h1)
     rintro a' w' ⟨v, rfl, hj', hgv, hmono⟩
     refine ih (k + 1) (l.setIfInBounds k true) _ w' (by omega) ?_ ⟨by simpa using hp.sz, (put_tmps_size a o.dst v).trans hp.nt, (put_defers_same a o.dst v).trans hp.df, ?_, ?_, ?_, hj'⟩
     · intro i hi
       rw [getD_set_ite hkl]
       by_cases hik : i = k
       · subst hik; simp
       · rw [if_neg hik, hl i hi]; omega
     · intro i oi hi hli e he hbe
       rw [getD_set_ite hkl] at hli ⊢
       by_cases hke : e.on = k
       · rw [if_pos hke]
       · rw [if_neg hke]
         by_cases hki : i = k
         · subst hki; rw [ho] at hi; cases hi; exact hall e he hbe
         · rw [if_neg hki] at hli; exact hp.down i oi hi hli e he hbe
     · intro i oi d hi hd hli
       rw [getD_set_ite hkl] at hli
       by_cases hki : i = k
       · subst hki
         rw [ho] at hi; cases hi
         rw [hd, eval_put_same (by rw [hp.nt]; exact hbound i o d ho hd)]
         exact hgv
       · rw [if_neg hki] at hli
         rw [eval_put_other (fun e => hki (huniq i k oi o d hi ho hd e))]
         exact hmono i _ (hp.good i oi d hi hd hli)
     · intro t ht
       rw [eval_put_other (ht k o ho)]
       exact hp.keep t ht
 refine wp_region ?_
 rw [List.range_eq_range']
 refine main ops.size 0 (Array.replicate ops.size false) a0 w0 (by omega) ?_ ⟨by simp, rfl, rfl, ?_, ?_, fun _ _ => rfl, hj⟩
 · intro i hi; simp [Array.getD, hi]
 · intro i o ho hl
   simp [Array.getD] at hl
 · intro i o d ho hd hl
   simp [Array.getD] at hl
end
end Go.Proofs.YtddlokkejglckaaGreatDoor
namespace Go.Proofs.YtddlokkejglckaaGreatDoor
open Go.RowKit Nt
set_option linter.unusedVariables false
set_option maxRecDepth 100000
section
variable {W0 : World} {pb kN : Nat} {n : Nd} {nv : Value} {w0 : World} {ov0 : Value}
theorem Kx.b {w : World} (h : Kx W0 pb kN n nv w0 ov0 w) : Below W0.heap.size W0 w := by obtain ⟨T, ov, h⟩ := h; exact h.b
theorem Kx.c1 {w : World} (h : Kx W0 pb kN n nv w0 ov0 w) : w.cell? ⟨kN, 1, none⟩ = some (.string (S (L n.text))) := by obtain ⟨T, ov, h⟩ := h; rw [S_L]; exact h.c1
theorem Kx.c2 {w : World} (h : Kx W0 pb kN n nv w0 ov0 w) : w.cell? ⟨kN, 2, none⟩ = some nv := by obtain ⟨T, ov, h⟩ := h; exact h.c2
theorem Kx.far {w : World} {b o : Nat} {x : Value} (hc : W0.cell? ⟨b, o, none⟩ = some x) (h : Kx W0 pb kN n nv w0 ov0 w) : w.cell? ⟨b, o, none⟩ = some x := c_ h.b hc
theorem sx_of {f : FuncId} {args : Array Value} {U U' : List Tok} {W : World} (hp : W0.heap.size ≤ pb)
   (hc : ∀ ov, Below W0.heap.size W0 W → Pi pb U ov W → Calls Tryz.prog f args W fun e w' => e = .returned (.pointer (some ⟨pb, 0, none⟩)) ∧ ∃ ov', Pi pb U' ov' w' ∧ Pr pb ov ov' W w')
   (h : Sx W0 pb kN n nv w0 ov0 U W) : Calls Tryz.prog f args W fun e w' => e = .returned (.pointer (some ⟨pb, 0, none⟩)) ∧ Sx W0 pb kN n nv w0 ov0 U' w' ∧ Nx pb W w' := by
 obtain ⟨ov, h⟩ := h
 exact (hc ov h.b h.pi).mono fun e w' ⟨he, ov', hpi, hpr⟩ => ⟨he, ⟨ov', h.next hp hpi hpr⟩, ov, ov', h.pi.c0, hpi.c0, hpr⟩
theorem sx_nodes {ks : List Nd} (hp : W0.heap.size ≤ pb) (ih : ∀ x ∈ ks, IpC x) (hf : ∀ x ∈ ks, fm x = true) {v : Value} (hr : RdK W0 ks v) {U : List Tok} (hz : sizeT (U ++ joinT [] (ks.map tk)) ≤ 1099511627776) (W : World) (h : Sx W0 pb kN n nv w0 ov0 U W) :
   Calls Tryz.prog 43 #[.pointer (some ⟨pb, 0, none⟩), v] W fun e w' => e = .returned (.pointer (some ⟨pb, 0, none⟩)) ∧ Sx W0 pb kN n nv w0 ov0 (U ++ joinT [] (ks.map tk)) w' ∧ Nx pb W w' :=
 sx_of hp (fun ov hb hpi => iNodes ks ih hf v W0 W pb U ov hr hb hp hpi hz) h
theorem sx_commas {ks : List Nd} (hp : W0.heap.size ≤ pb) (ih : ∀ x ∈ ks, IpC x) (hf : ∀ x ∈ ks, fm x = true) {v : Value} (hr : RdK W0 ks v) {U : List Tok} (hz : sizeT (U ++ joinT [44] (ks.map tk)) ≤ 1099511627776) (W : World) (h : Sx W0 pb kN n nv w0 ov0 U W) :
   Calls Tryz.prog 41 #[.pointer (some ⟨pb, 0, none⟩), v] W fun e w' => e = .returned (.pointer (some ⟨pb, 0, none⟩)) ∧ Sx W0 pb kN n nv w0 ov0 (U ++ joinT [44] (ks.map tk)) w' ∧ Nx pb W w' :=
 sx_of hp (fun ov hb hpi => iCommas ks ih hf v W0 W pb U ov hr hb hp hpi hz) h
end
def dropV (b o m c i : Nat) : Value := if c = i then .slice (some ⟨b, o, none⟩) 0 0 else .slice (some ⟨b, o + i * 3, none⟩) (m - i) (c - i)
theorem RdK_dropV {W : World} {ks : List Nd} {b o c : Nat} (hr : RdK W ks (.slice (some ⟨b, o, none⟩) ks.length c)) (i : Nat) (hi : i ≤ ks.length) : RdK W (ks.drop i) (dropV b o ks.length c i) := by
 have hcap := RdK_cap hr
 unfold dropV
 by_cases h : c = i
 · rw [if_pos h]
   have : ks.drop i = [] := List.drop_eq_nil_of_le (by omega)
   rw [this]; exact .nil _ _
 · rw [if_neg h]
   exact RdK_drop hr i hi (c - i) (by omega)
section
variable {ops : Array Oper} {Q : Exit → Act → World → Prop} {avs : List AV} {W0 : World} {pb kN : Nat} {n : Nd} {nv : Value} {w0 : World} {ov0 : Value} {cs : List Nat} {Ts : List (List Tok)} {a0 : Act}
theorem ps_drop {k : Nat} {d : Option Tmp} {x : Operand} {i : Nat} {ty : TypeId} {pos : String} {af : Array Edge} {b o m c : Nat} (hk : cs.contains k = false) (hx : avs[k]? = some (.val (dropV b o m c i))) (hi : i ≤ m) (hm : m ≤ c) (h : Kn ops avs W0 pb kN n nv w0 ov0 cs Ts a0 af x (.slice (some ⟨b, o, none⟩) m c)) :
   PlanStep Tryz.prog ops Q (GG pb avs) (JJ W0 pb kN n nv w0 ov0 cs Ts) a0 k ⟨d, .slice 28 x (some (.const (.int .i64 i))) none none, ty, pos, af, none⟩ := by
 by_cases hc : c = i
 · subst hc
   obtain rfl : m = c := by omega
   exact ps_sliceLo0 hk (by rw [hx, dropV, if_pos rfl]) h
 · exact ps_sliceLo hk (by rw [hx, dropV, if_neg hc]) hi hm hc h
theorem text_prints {id : Nat} {w : World} (avs : List AV) (cs : List Nat) (Ts : List (List Tok)) (nt : Nat) (hnt : a0.tmps.size = nt) (hform : planForm nt ops = true) (hcs : cs.all (fun k => decide (k < ops.size)) = true)
   (h0 : Sx W0 pb kN n nv w0 ov0 (Ts.getD 0 []) w) (hs : PlanSteps Tryz.prog ops Q (GG pb avs) (JJ W0 pb kN n nv w0 ov0 cs Ts) a0 0 ops.toList)
   (hf : ∀ a w', a.tmps.size = nt → a.defers = a0.defers → Sx W0 pb kN n nv w0 ov0 (Ts.getD cs.length []) w' → Q .normal a w') :
   (Code.region id ops false).wp Tryz.prog Q a0 w := by
 refine wp_region_text (GG pb avs) (JJ W0 pb kN n nv w0 ov0 cs Ts) nt hnt hform ⟨0, Nat.zero_le _, fun j k hj => by simp [Array.getD], h0⟩ hs ?_
 intro l a w' hp hall
 obtain ⟨c, hc, hl, hs'⟩ := hp.j
 have : c = cs.length := by
   rcases Nat.lt_or_ge c cs.length with h | h
   · exfalso
     have hg : cs[c]? = some cs[c] := List.getElem?_eq_getElem h
     have h1 := hl c _ hg
     rw [hall cs[c] ?_] at h1
     · simp at h1
     · rw [List.all_eq_true] at hcs
       exact of_decide_eq_true (hcs _ (List.getElem_mem h))
   · omega
 subst this
 exact hf a w' (hp.nt.trans hnt) hp.df hs'
end
def IpT (F : FuncId) (n : Nd) (E : List Tok → List Tok) : Prop := ∀ (v : Value) (W0 w : World) (pb : Nat) (T ET : List Tok) (ov : Value), RdK W0 n.kids v → Below W0.heap.size W0 w → W0.heap.size ≤ pb → Pi pb T ov w → ET = E T → sizeT ET ≤ 1099511627776 →
 Calls Tryz.prog F #[.pointer (some ⟨pb, 0, none⟩), ndV n v] w fun e w' => e = .returned (.tuple #[]) ∧ ∃ ov', Pi pb ET ov' w' ∧ Pr pb ov ov' w w'
theorem Sx.start {W0 : World} {pb : Nat} {n : Nd} {nv : Value} {T : List Tok} {ov : Value} {w : World} (hb : Below W0.heap.size W0 w) (hpi : Pi pb T ov w) : Sx W0 pb w.heap.size n nv w ov T (w.alloc (.cells #[.int .i64 n.kind, .string n.text, nv] 30)) := ⟨ov, Sti.start hb hpi 30⟩
theorem kind0 (w : World) (n : Nd) (nv : Value) : (w.alloc (.cells #[.int .i64 n.kind, .string n.text, nv] 30)).cell? ⟨w.heap.size, 0, none⟩ = some (.int .i64 n.kind) := by rw [World.cell?_alloc_new]; rfl
theorem Sx.fin {W0 : World} {pb kN : Nat} {n : Nd} {nv : Value} {w0 : World} {ov0 : Value} {T : List Tok} {W : World} (h : Sx W0 pb kN n nv w0 ov0 T W) : ∃ ov', Pi pb T ov' W ∧ Pr pb ov0 ov' w0 W := by
 obtain ⟨ov, h⟩ := h; exact ⟨ov, h.pi, h.pr⟩
theorem pre_size {A B : List Tok} {m : Nat} (h : sizeT (A ++ B) ≤ m) : sizeT A ≤ m := by rw [sizeT_app] at h; omega
def perT (t : Tok) (ks : List Nd) : List Tok := if ks = [] then [] else [t] ++ joinT [] (ks.map tk)
set_option maxHeartbeats 800000 in
theorem iPerhaps (ks : List Nd) (ih : ∀ x ∈ ks, IpC x) (hf : ∀ x ∈ ks, fm x = true) (t : Tok) (v : Value) (W0 w : World) (pb : Nat) (T : List Tok) (ov : Value) (hr : RdK W0 ks v) (hb : Below W0.heap.size W0 w) (hp : W0.heap.size ≤ pb) (hpi : Pi pb T ov w) (hz : sizeT (T ++ perT t ks) ≤ 1099511627776) :
   Calls Tryz.prog 40 #[.pointer (some ⟨pb, 0, none⟩), .string (S t), v] w fun e w' => e = .returned (.pointer (some ⟨pb, 0, none⟩)) ∧ ∃ ov', Pi pb (T ++ perT t ks) ov' w' ∧ Pr pb ov ov' w w' := by
 obtain ⟨a0, c0, rfl⟩ := RdK_slice hr
 have hl := len_okP hr
 by_cases hks : ks = []
 · subst hks
   have e : T ++ perT t [] = T := by rw [perT, if_pos rfl, List.append_nil]
   rw [e]
   have HF : Hid (∃ ov', Pi pb T ov' w ∧ Pr pb ov ov' w w) := h_ ⟨ov, hpi, Pr.refl _ _ _⟩
   clear ih hf hr hb hpi hz e
   simp only [List.length_nil]
   go_enter Tryz.func40, Tryz.ntmps40
   go_wp2
   exact bodyPost_ret (v := .pointer (some ⟨pb, 0, none⟩)) (by simp [results, Tryz.results40, go_sem]) rfl ⟨rfl, u_ HF⟩
 · have hpos : (0 : Int) < (ks.length : Int) := by
     have := List.length_pos_iff.2 hks
     omega
   have e : T ++ perT t ks = T ++ [t] ++ joinT [] (ks.map tk) := by rw [perT, if_neg hks, List.append_assoc]
   rw [e] at hz ⊢
   have hz1 : T.length + ([t] : List Tok).length ≤ 1099511627776 := by
     have h1 := pre_size hz
     have := len_sizeT (T ++ [t])
     rw [List.length_append] at this
     omega
   have hP1 := hpi.alloc (Obj.cells #[Value.string (S t)] 9)
   have hA1 := Arr.new (M := w.heap.size) (ts := [t]) (cs := #[Value.string (S t)]) hpi rfl rfl
   have hB1 := hb.alloc hb.size (Obj.cells #[Value.string (S t)] 9)
   have PU := h_ (fun c9 => iPut pb T [t] ov w.heap.size c9 (w.alloc (Obj.cells #[Value.string (S t)] 9)) hP1 hA1.cells hz1)
   have NO := h_ (fun (W : World) (ovy : Value) (hbw : Below W0.heap.size W0 W) (h1 : Pi pb (T ++ [t]) ovy W) => iNodes ks ih hf _ W0 W pb (T ++ [t]) ovy hr hbw hp h1 hz)
   have BE := h_ (fun (ov' : Value) (W : World) (h : Pr pb ov ov' (w.alloc (Obj.cells #[Value.string (S t)] 9)) W) => belowI hB1 hp hP1 h)
   have PR := h_ (Pr.ofAlloc pb ov w (Obj.cells #[Value.string (S t)] 9))
   generalize hE : T ++ [t] ++ joinT [] (ks.map tk) = ET at *
   generalize hT : T ++ [t] = T1 at *
   generalize S t = st at *
   clear ih hf hr hb hpi hz e hz1 hP1 hA1 hB1 hE hT hks
   go_enter Tryz.func40, Tryz.ntmps40
   go_wp2_with (first
     | (go_at_call 43; refine (u_ NO _ _ b1 hpi1).mono ?_; rintro e w2 ⟨rfl, ov2, hpi2, hpr2⟩)
     | (go_at_call 39; refine (u_ PU _).mono ?_; rintro e w1 ⟨rfl, ov1, hpi1, hpr1⟩; have b1 := u_ BE _ _ hpr1))
   exact bodyPost_ret (v := .pointer (some ⟨pb, 0, none⟩)) (by simp [results, Tryz.results40, go_sem]) rfl ⟨rfl, ov2, hpi2, (u_ PR).trans (hpr1.trans hpr2)⟩
theorem sx_perhaps {W0 : World} {pb kN : Nat} {n : Nd} {nv : Value} {w0 : World} {ov0 : Value} {ks : List Nd} (hp : W0.heap.size ≤ pb) (ih : ∀ x ∈ ks, IpC x) (hf : ∀ x ∈ ks, fm x = true) {v : Value} (hr : RdK W0 ks v) {U : List Tok} {t : Tok} (hz : sizeT (U ++ perT t ks) ≤ 1099511627776) (W : World) (h : Sx W0 pb kN n nv w0 ov0 U W) :
   Calls Tryz.prog 40 #[.pointer (some ⟨pb, 0, none⟩), .string (S t), v] W fun e w' => e = .returned (.pointer (some ⟨pb, 0, none⟩)) ∧ Sx W0 pb kN n nv w0 ov0 (U ++ perT t ks) w' ∧ Nx pb W w' :=
 sx_of hp (fun ov hb hpi => iPerhaps ks ih hf t v W0 W pb U ov hr hb hp hpi hz) h
end Go.Proofs.YtddlokkejglckaaGreatDoor
