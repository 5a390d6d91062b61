/- The row that is gone through. -/
import Derived.Test.YtonfbnbkhpabbaaP4
namespace Go.Proofs.Ytonfbnbkhpabbaa
open Go Go.RowKit Gs
set_option linter.unusedVariables false
set_option linter.unusedSimpArgs false
set_option maxRecDepth 100000
theorem FM.open {B n : Nat} {W : World} {s : FS} (h : FM B n none W s) (p : Nat) {xc : Array Value} (hx : ∀ j, (s.sv p).ownBlock = some j → W.heap[j]? = some (.cells xc 24)) : FM B n (some p) W { s with xc := xc } :=
  ⟨h.lo, h.hb, h.hv, h.ho, h.hm, h.ht, fun q hq _ => h.hw q hq (by simp), h.hc, h.d1, h.d2, h.d3, h.d4, h.d5, h.lv, h.lm, (fun q j he hq hj => by injection he with e; subst e; exact hx j hj), fun q hq => ⟨(h.fz q hq).at_, (h.fz q hq).b, (h.fz q hq).vb, (h.fz q hq).ob, (h.fz q hq).mb, (h.fz q hq).tv, (h.fz q hq).sv, (h.fz q hq).ids⟩⟩
/-- Its row is turned. -/
theorem FM.turn {B n p g : Nat} {W : World} {s : FS} {cs : Array Value} (h : FM B n (some p) W s) (hp : p < 2 * n + 2) (hg : (s.sv p).ownBlock = some g) : FM B n (some p) (W.setRow g cs) { s with xc := cs } := by
  obtain ⟨hBg, o, hgo⟩ := h.d5 p g hp hg
  have hk : ∀ (k : Nat) (o : Array Value) (t : TypeId), W.heap[k]? = some (.cells o t) → k ≠ g → (W.setRow g cs).heap[k]? = some (.cells o t) := fun k o t hc hne => (setRow_other W g k cs hne).trans hc
  have ht : ∀ (k : Nat) (o : Array Value) (t : TypeId), W.heap[k]? = some (.cells o t) → t ≠ 24 → (W.setRow g cs).heap[k]? = some (.cells o t) := fun k o t hc hne => hk k o t hc (ty_ne hc hgo hne)
  refine ⟨h.lo, ht _ _ _ h.hb (by decide), ht _ _ _ h.hv (by decide), ht _ _ _ h.ho (by decide), ht _ _ _ h.hm (by decide), ownsRow_keep h.ht (fun k o _ hc => ht _ _ _ hc (by decide)), fun q hq he => ownsRow_keep (h.hw q hq he) (fun k o hko hc => hk _ _ _ hc (fun e => ?_)), fun i hi => ?_, h.d1, h.d2, h.d3, h.d4, fun q j hq hj => ?_, h.lv, h.lm, fun q j he hq hj => ?_, fun q hq => ⟨hk _ _ _ (h.fz q hq).at_ (fun e => (h.fz q hq).sv p hp (e ▸ hg)), (h.fz q hq).b, (h.fz q hq).vb, (h.fz q hq).ob, (h.fz q hq).mb, (h.fz q hq).tv, (h.fz q hq).sv, (h.fz q hq).ids⟩⟩
  · subst e
    exact he (by rw [h.d4 q p k hq hp hko hg])
  · obtain ⟨h1, cur, h2, h3⟩ := h.hc i hi
    exact ⟨h1, cur, ht _ _ _ h2 (by decide), h3⟩
  · obtain ⟨h1, o', h2⟩ := h.d5 q j hq hj
    by_cases e : j = g
    · subst e
      exact ⟨h1, cs, setRow_heap W j o cs 24 (0, 0) hgo⟩
    · exact ⟨h1, o', hk _ _ _ h2 e⟩
  · injection he with e
    subst e
    have e2 : some g = some j := hg.symm.trans hj
    injection e2 with e3
    subst e3
    exact setRow_heap W g o cs 24 (0, 0) hgo
/-- Who watches it, by name. -/
theorem FM.names {B n : Nat} {l : Int} {W : World} {s : FS} (h : FM B n (some (plN l)) W s) (hl : Lit n l) (r : List Nat) : FM B n (some (plN l)) W { s with ws := upW s.ws l r } := by
  refine ⟨h.lo, h.hb, h.hv, h.ho, h.hm, h.ht, fun q hq he => ?_, h.hc, h.d1, h.d2, h.d3, h.d4, h.d5, h.lv, h.lm, h.hx, fun q hq => ⟨(h.fz q hq).at_, (h.fz q hq).b, (h.fz q hq).vb, (h.fz q hq).ob, (h.fz q hq).mb, (h.fz q hq).tv, (h.fz q hq).sv, (h.fz q hq).ids⟩⟩
  have e : q ≠ plN l := fun e => he (by rw [e])
  have e2 : ltP q ≠ l := fun e3 => e (by rw [← e3, plN_ltP (by rw [e3]; exact hl.1)])
  show World.ownsRow W B 24 1 (s.sv q) (upW s.ws l r (ltP q)).length ((upW s.ws l r (ltP q)).map (hd s.ln s.cap))
  rw [upW_other e2]
  exact h.hw q hq he
/-- Its row is put back. -/
theorem FM.shut {B n : Nat} {l : Int} {W : World} {s : FS} {v' : Value} (h : FM B n (some (plN l)) W s) (hl : Lit n l) (hown : W.ownsRow B 24 1 v' (s.ws l).length ((s.ws l).map (hd s.ln s.cap))) (hb : v'.ownBlock = (s.sv (plN l)).ownBlock) : FM B n none (W.setCell ⟨s.ob, plN l, none⟩ v') { s with sv := upV s.sv (plN l) v' } := by
  have hp := plN_lt hl
  have hk : ∀ (k : Nat) (o : Array Value) (t : TypeId), W.heap[k]? = some (.cells o t) → t ≠ 22 → (W.setCell ⟨s.ob, plN l, none⟩ v').heap[k]? = some (.cells o t) := fun k o t hc hne => (Below.heap_setCell W ⟨s.ob, plN l, none⟩ v' k (ty_ne hc h.ho hne)).trans hc
  have hob : ∀ q, (upV s.sv (plN l) v' q).ownBlock = (s.sv q).ownBlock := fun q => by
    unfold upV
    by_cases e : q = plN l
    · rw [if_pos e, e]; exact hb
    · rw [if_neg e]
  refine ⟨h.lo, hk _ _ _ h.hb (by decide), hk _ _ _ h.hv (by decide), ?_, hk _ _ _ h.hm (by decide), ownsRow_keep h.ht (fun k o _ hc => hk _ _ _ hc (by decide)), fun q hq he => ?_, fun i hi => ?_, h.d1, h.d2, h.d3, fun q r j hq hr h1 h2 => h.d4 q r j hq hr (hob q ▸ h1) (hob r ▸ h2), fun q j hq hj => ?_, h.lv, h.lm, (fun q j he => by cases he), fun q hq => ⟨(Below.heap_setCell W ⟨s.ob, plN l, none⟩ v' q.1 (h.fz q hq).ob).trans (h.fz q hq).at_, (h.fz q hq).b, (h.fz q hq).vb, (h.fz q hq).ob, (h.fz q hq).mb, (h.fz q hq).tv, fun p hp' e => (h.fz q hq).sv p hp' (hob p ▸ e), (h.fz q hq).ids⟩⟩
  · rw [heap_set h.ho, svA_set]
  · show World.ownsRow _ B 24 1 (upV s.sv (plN l) v' q) (s.ws (ltP q)).length ((s.ws (ltP q)).map (hd s.ln s.cap))
    unfold upV
    by_cases e : q = plN l
    · subst e
      rw [if_pos rfl, ltP_plN]
      exact ownsRow_keep hown (fun k o _ hc => hk _ _ _ hc (by decide))
    · rw [if_neg e]
      exact ownsRow_keep (h.hw q hq (fun e2 => e (by injection e2 with e3; exact e3.symm))) (fun k o _ hc => hk _ _ _ hc (by decide))
  · obtain ⟨h1, cur, h2, h3⟩ := h.hc i hi
    exact ⟨h1, cur, hk _ _ _ h2 (by decide), h3⟩
  · obtain ⟨h1, o, h2⟩ := h.d5 q j hq (hob q ▸ hj)
    exact ⟨h1, o, hk _ _ _ h2 (by decide)⟩
/-- Of the row: what was kept, and what is still to come. -/
structure RV (ln cap : Nat → Nat) (xc : Array Value) (c : Nat) (V K : List Nat) (j : Nat) : Prop where
  sz : xc.size = c
  kp : xc.toList.take K.length = K.map (hd ln cap)
  rs : ∀ q i, j ≤ q → V[q]? = some i → xc[q]? = some (hd ln cap i)
  le : K.length ≤ j
  vl : V.length ≤ c
  mx : c ≤ maxLen
theorem RV.skip {ln cap : Nat → Nat} {xc : Array Value} {c : Nat} {V K : List Nat} {j : Nat} (h : RV ln cap xc c V K j) : RV ln cap xc c V K (j + 1) :=
  ⟨h.sz, h.kp, fun q i hq => h.rs q i (by omega), by have := h.le; omega, h.vl, h.mx⟩
theorem RV.keep {ln cap : Nat → Nat} {xc : Array Value} {c : Nat} {V K : List Nat} {j i : Nat} (h : RV ln cap xc c V K j) (hi : V[j]? = some i) : RV ln cap (xc.toList.take K.length ++ [hd ln cap i] ++ xc.toList.drop (K.length + 1)).toArray c V (K ++ [i]) (j + 1) := by
  have hjv : j < V.length := (List.getElem?_eq_some_iff.1 hi).1
  have hk := h.le
  have hv := h.vl
  have hs := h.sz
  refine ⟨?_, ?_, fun q i' hq hi' => ?_, by simp; omega, hv, h.mx⟩
  · simp [hs]; omega
  · rw [h.kp]
    have e : (K ++ [i]).length = (K.map (hd ln cap) ++ [hd ln cap i]).length := by simp
    rw [List.map_append]
    simp only [List.toList_toArray]
    rw [e, List.take_left]
    rfl
  · have hqv : q < V.length := (List.getElem?_eq_some_iff.1 hi').1
    have := h.rs q i' (by omega) hi'
    rw [← this]
    simp only [List.getElem?_toArray]
    rw [List.append_assoc, List.getElem?_append_right (by simp; omega)]
    have e1 : (xc.toList.take K.length).length = K.length := by simp [hs]; omega
    rw [e1, List.getElem?_append_right (by simp; omega), List.getElem?_drop]
    have e2 : K.length + 1 + (q - K.length - [hd ln cap i].length) = q := by simp; omega
    rw [e2]
    simp
theorem RV.own {ln cap : Nat → Nat} {xc : Array Value} {c : Nat} {V K : List Nat} {j g B : Nat} {W : World} (h : RV ln cap xc c V K j) (hj : j ≤ V.length) (hg : W.heap[g]? = some (.cells xc 24)) (hB : B ≤ g) : W.ownsRow B 24 1 (.slice (some ⟨g, 0, none⟩) K.length c) K.length (K.map (hd ln cap)) := by
  have hk := h.le
  have hv := h.vl
  exact ⟨by simp, .inr ⟨g, c, xc, rfl, hB, hg, by omega, h.mx, by rw [h.sz, Nat.mul_one], by rw [Nat.mul_one]; exact h.kp⟩⟩
theorem RV.rest {ln cap : Nat → Nat} {xc : Array Value} {c : Nat} {V K : List Nat} {j : Nat} (h : RV ln cap xc c V K j) (hj : j ≤ V.length) : RV ln cap (xc.toList.take K.length ++ (V.drop j).map (hd ln cap) ++ xc.toList.drop (K.length + ((V.drop j).map (hd ln cap)).length)).toArray c V (K ++ V.drop j) V.length := by
  have hk := h.le
  have hv := h.vl
  have hs := h.sz
  refine ⟨?_, ?_, fun q i' hq hi' => ?_, by simp; omega, hv, h.mx⟩
  · simp [hs]; omega
  · rw [h.kp]
    have e : (K ++ V.drop j).length = (K.map (hd ln cap) ++ (V.drop j).map (hd ln cap)).length := by simp
    rw [List.map_append]
    simp only [List.toList_toArray]
    rw [e, List.take_left]
  · have := (List.getElem?_eq_some_iff.1 hi').1
    omega
end Go.Proofs.Ytonfbnbkhpabbaa
namespace Go.Proofs.Ytonfbnbkhpabbaa
open Go Go.RowKit Gs
set_option linter.unusedVariables false
set_option linter.unusedSimpArgs false
set_option maxRecDepth 100000
theorem FM.lit {B n : Nat} {ex : Option Nat} {W : World} {s : FS} (h : FM B n ex W s) {i : Nat} (hi : i ∈ s.ids) {k : Nat} {z : Int} (hz : (s.cl i)[k]? = some z) : W.cell? ⟨i, k, none⟩ = some (.int .i64 z) := by
  obtain ⟨_, cur, h2, h3⟩ := h.hc i hi
  have hk : k < (s.cl i).length := (List.getElem?_eq_some_iff.1 hz).1
  simp only [World.cell?, h2]
  have e : (cur.toList.take (s.cl i).length)[k]? = cur[k]? := by
    rw [List.getElem?_take, if_pos hk]; simp
  have e2 : cur[k]? = some (.int .i64 z) := by
    rw [← e, h3]; unfold iL; rw [List.getElem?_map, hz]; rfl
  exact e2
theorem FM.lfz {B n : Nat} {ex : Option Nat} {W : World} {s : FS} (h : FM B n ex W s) {i : Nat} (hi : i ∈ s.ids) (k : Nat) : W.frozen? ⟨i, k, none⟩ = false := by
  obtain ⟨_, cur, h2, h3⟩ := h.hc i hi
  simp [World.frozen?, h2]
theorem FM.two {B n : Nat} {ex : Option Nat} {W : World} {s : FS} (h : FM B n ex W s) {i : Nat} (hi : i ∈ s.ids) (hnd : s.ids.Nodup) (a b : Nat) (x y : Int) : FM B n ex ((W.setCell ⟨i, a, none⟩ (.int .i64 x)).setCell ⟨i, b, none⟩ (.int .i64 y)) { s with cl := upC s.cl i (((s.cl i).set a x).set b y) } := by
  obtain ⟨_, cur, h2, h3⟩ := h.hc i hi
  refine h.swap hi (fun _ _ _ => trivial) (((s.cl i).set a x).set b y) (by simp) ((cur.setIfInBounds a (.int .i64 x)).setIfInBounds b (.int .i64 y)) (heap_set (heap_set h2)) ?_ hnd (fun k hk => (Below.heap_setCell (W.setCell ⟨i, a, none⟩ (.int .i64 x)) ⟨i, b, none⟩ _ k hk).trans (Below.heap_setCell W ⟨i, a, none⟩ _ k hk))
  simp only [List.length_set, Array.toList_setIfInBounds, List.take_set]
  rw [h3]
  unfold iL
  rw [List.map_set, List.map_set]
def sw (c : List Int) : List Int := (c.set 0 (w1 c)).set 1 (w0 c)
def mv (c : List Int) (k : Nat) (lit gone : Int) : List Int := (c.set 1 lit).set k gone
theorem same_perm {c c' : List Int} (h : List.Perm c' c) : Same c c' := ⟨h.length_eq, fun hn => h.symm.nodup hn, fun l => h.mem_iff⟩
theorem w0_at {c : List Int} (h : 2 ≤ c.length) : w0 c = c[0] := by
  unfold w0; rw [List.getD_eq_getElem?_getD, List.getElem?_eq_getElem (by omega)]; rfl
theorem w1_at {c : List Int} (h : 2 ≤ c.length) : w1 c = c[1] := by
  unfold w1; rw [List.getD_eq_getElem?_getD, List.getElem?_eq_getElem (by omega)]; rfl
theorem sw_spec {c : List Int} (h : 2 ≤ c.length) : Same c (sw c) ∧ w0 (sw c) = w1 c ∧ w1 (sw c) = w0 c := by
  refine ⟨same_perm ?_, ?_, ?_⟩
  · unfold sw
    rw [w0_at h, w1_at h]
    exact List.set_set_perm (by omega) (by omega)
  · unfold sw
    generalize w1 c = x
    generalize w0 c = y
    unfold w0
    rw [List.getD_eq_getElem?_getD, List.getElem?_set_ne (by omega), List.getElem?_set_self (by omega)]
    rfl
  · unfold sw
    generalize w1 c = x
    generalize w0 c = y
    unfold w1
    rw [List.getD_eq_getElem?_getD, List.getElem?_set_self (by simp; omega)]
    rfl
theorem mv_spec {c : List Int} {k : Nat} {lit gone : Int} (h : 2 ≤ c.length) (hk : 2 ≤ k) (hz : c[k]? = some lit) (hg : w1 c = gone) : Same c (mv c k lit gone) ∧ w0 (mv c k lit gone) = w0 c ∧ w1 (mv c k lit gone) = lit := by
  obtain ⟨hkl, e⟩ := List.getElem?_eq_some_iff.1 hz
  refine ⟨same_perm ?_, ?_, ?_⟩
  · unfold mv
    rw [← hg, w1_at h, ← e]
    exact List.set_set_perm (by omega) hkl
  · unfold mv w0
    rw [List.getD_eq_getElem?_getD, List.getElem?_set_ne (by omega), List.getElem?_set_ne (by omega), List.getD_eq_getElem?_getD]
  · unfold mv w1
    rw [List.getD_eq_getElem?_getD, List.getElem?_set_ne (by omega), List.getElem?_set_self (by omega)]
    rfl
/-- An append that stays where it is. -/
theorem wpAppIn {ops : Array Oper} {rest : List Oper} {o : Oper} {a : Act} {Q : Exit → Act → World → Prop} {w : World} (hgd : o.guard = none) (s x : Operand)
    (ho : o.op = .call { callee := .builtin .append, args := #[s, x], argTypes := #[22, 22] })
    (g k c : Nat) (cur : Array Value) (hg : w.heap[g]? = some (.cells cur 24)) (hs : a.eval s = .slice (some ⟨g, 0, none⟩) k c)
    (ad : Addr) (m d : Nat) (news : List Value) (hx : a.eval x = .slice (some ad) m d) (hl : news.length = m) (hnews : ∀ j u, news[j]? = some u → w.cell? (ad.add j) = some u) (h1 : ∀ u ∈ news, u.oneCell' = true)
    (hroom : k + m ≤ c) (hfit : k + m ≤ cur.size)
    (cs : Array Value) (hcs : cs = (cur.toList.take k ++ news ++ cur.toList.drop (k + m)).toArray) (h : wpList Try.prog ops Q rest (a.put o.dst (.slice (some ⟨g, 0, none⟩) (k + m) c)) (w.setRow g cs)) : wpList Try.prog ops Q (o :: rest) a w := by
  obtain ⟨i0, hi, hz0, hz1, hz2⟩ := info_parts info28
  have hr := run_append_room (P := Try.prog) w 22 o.type 24 i0 Try.underlying22 hi g k c cur hg ad m d news (by rw [hz1, Nat.mul_one]; exact hl) hnews h1 hroom (by rw [hz1, Nat.mul_one, hl]; exact hfit)
  rw [hz1, Nat.mul_one, hl, ← hcs] at hr
  refine wpList_plain hgd fun K hK' => ?_
  unfold Oper.wp
  simp [execOp, ho, resolve, invoke, builtin, hs, hx, hr, Result.andThen]
  exact hK' _ _ h
end Go.Proofs.Ytonfbnbkhpabbaa
namespace Go.Proofs.Ytonfbnbkhpabbaa
open Go Go.RowKit Gs
set_option linter.unusedVariables false
structure LS (ok : Prop) (n : Nat) (Cl : List (List Int)) (A t0 : List Int) (tb : List (List Int)) (fp : List Int) (t vs : List Int) (ids : List Nat) (cl : Nat → List Int) (ws : Int → List Nat) : Prop where
  tr : TrOK n t
  vr : VR n t vs
  wt : Wt n ids cl ws
  rp : ok → Rp Cl t0 ids cl
  wa : ok → Wa ids cl t fp
  wb : ok → ∀ b ∈ tb, Wa ids cl b b
  sn : ok → Sn Cl A t
  h0 : ∀ l ∈ t0, l ∈ t
  hf : ∀ l ∈ fp, l ∈ t
  hb : ∀ b ∈ tb, ∀ l ∈ b, l ∈ t
  nd : ids.Nodup
  bd : ids.length ≤ 1048576
section
variable {ok : Prop} {n : Nat} {Cl : List (List Int)} {A t0 : List Int} {tb : List (List Int)} {fp : List Int} {t vs : List Int} {ids : List Nat} {cl : Nat → List Int} {ws : Int → List Nat}
theorem LS.swap (h : LS ok n Cl A t0 tb fp t vs ids cl ws) {i : Nat} (hi : i ∈ ids) : LS ok n Cl A t0 tb fp t vs ids (upC cl i (sw (cl i))) ws := by
  obtain ⟨h1, e0, e1⟩ := sw_spec (h.wt.ok i hi).1
  exact ⟨h.tr, h.vr, h.wt.swap h1 e0 e1, fun o => (h.rp o).same h1, fun o => (h.wa o).swap e0 e1, fun o b hb => (h.wb o b hb).swap e0 e1, h.sn, h.h0, h.hf, h.hb, h.nd, h.bd⟩
theorem LS.move (h : LS ok n Cl A t0 tb fp t vs ids cl ws) {i k : Nat} {gone lit : Int} {K R : List Nat} (hi : i ∈ ids) (hk : 2 ≤ k) (hz : (cl i)[k]? = some lit) (hg : w1 (cl i) = gone) (hw : ws gone = K ++ i :: R) (hgt : -gone ∈ t) (hlt : -lit ∉ t) : lit ≠ gone ∧ LS ok n Cl A t0 tb fp t vs ids (upC cl i (mv (cl i) k lit gone)) (upW (upW ws gone (K ++ R)) lit (ws lit ++ [i])) := by
  obtain ⟨k1, k2, k3⟩ := h.wt.ok i hi
  obtain ⟨h1, e0, e1⟩ := mv_spec k1 hk hz hg
  have hn1 : lit ≠ gone := fun e => hlt (e ▸ hgt)
  have hn0 : lit ≠ w0 (cl i) := by
    intro e
    rw [w0_at k1] at e
    obtain ⟨hkl, e2⟩ := List.getElem?_eq_some_iff.1 hz
    exact (List.pairwise_iff_getElem.1 k2) 0 k (by omega) hkl (by omega) (by rw [e2, e])
  exact ⟨hn1, h.tr, h.vr, h.wt.move hi h1 e0 e1 hg hw hn1 hn0, fun o => (h.rp o).same h1, fun o => (h.wa o).move h.tr (fun l hl => hl) h.hf hi e0 e1 hg hgt hlt, fun o b hb => (h.wb o b hb).move h.tr (h.hb b hb) (h.hb b hb) hi e0 e1 hg hgt hlt, h.sn, h.h0, h.hf, h.hb, h.nd, h.bd⟩
theorem LS.push (h : LS ok n Cl A t0 tb fp t vs ids cl ws) {l : Int} (hl : Lit n l) (ho : Opn t l) (hd : ok → Der Cl A l) : LS ok n Cl A t0 tb fp (t ++ [l]) (put vs l) ids cl ws :=
  ⟨h.tr.snoc hl ho, h.vr.put hl ho, h.wt, h.rp, fun o => (h.wa o).more l, h.wb, fun o => (h.sn o).snoc (hd o), fun m hm => List.mem_append_left _ (h.h0 m hm), fun m hm => List.mem_append_left _ (h.hf m hm), fun b hb m hm => List.mem_append_left _ (h.hb b hb m hm), h.nd, h.bd⟩
/-- What is kept of those that watched it. -/
def KP (t : List Int) (cl : Nat → List Int) (gone : Int) (K : List Nat) : Prop := ∀ i ∈ K, w1 (cl i) = gone ∧ w0 (cl i) ∈ t
theorem LS.done (h : LS ok n Cl A t0 tb fp t vs ids cl ws) {gone : Int} (hg : -gone ∈ t) (hk : KP t cl gone (ws gone)) : LS ok n Cl A t0 tb (fp ++ [-gone]) t vs ids cl ws := by
  refine ⟨h.tr, h.vr, h.wt, h.rp, fun o => Wa.done h.wt (h.wa o) (fun i hi => ?_), h.wb, h.sn, h.h0, fun l hl => ?_, h.hb, h.nd, h.bd⟩
  · obtain ⟨k1, k2⟩ := hk i hi
    obtain ⟨q1, q2, q3⟩ := h.wt.ok i (h.wt.dn gone i hi).1
    exact ⟨fun e => absurd (e.trans k1.symm) (w_ne q1 q2), fun _ => k2⟩
  · rcases List.mem_append.1 hl with h1 | h1
    · exact h.hf l h1
    · simp at h1; subst h1; exact hg
theorem KP.other {gone : Int} {K : List Nat} (h : KP t cl gone K) {i : Nat} (hi : i ∉ K) (c : List Int) : KP t (upC cl i c) gone K := fun j hj => by
  have e : j ≠ i := fun e => hi (e ▸ hj)
  rw [upC_other e]; exact h j hj
theorem KP.more {gone x : Int} {K : List Nat} (h : KP t cl gone K) : KP (t ++ [x]) cl gone K := fun j hj => ⟨(h j hj).1, List.mem_append_left _ (h j hj).2⟩
theorem KP.snoc {gone : Int} {K : List Nat} (h : KP t cl gone K) {i : Nat} (h1 : w1 (cl i) = gone) (h2 : w0 (cl i) ∈ t) : KP t cl gone (K ++ [i]) := fun j hj => by
  rcases List.mem_append.1 hj with h3 | h3
  · exact h j h3
  · simp at h3; subst h3; exact ⟨h1, h2⟩
theorem nodup_len {c : List Int} (hl : Lits n c) (hn : c.Nodup) : c.length ≤ 2 * n + 2 := by
  have := nodup_bound (2 * n + 2) (c.map plN) ?_ ?_
  · simpa using this
  · rw [List.nodup_iff_pairwise_ne, List.pairwise_map]
    exact hn.imp (fun h e => h (plN_inj e))
  · intro x hx
    obtain ⟨l, h1, h2⟩ := List.mem_map.1 hx
    rw [← h2]; exact plN_lt (hl l h1)
theorem nodup_sub : ∀ (xs ys : List Nat), xs.Nodup → (∀ x ∈ xs, x ∈ ys) → xs.length ≤ ys.length
  | [], ys, _, _ => by simp
  | x :: xs, ys, hn, h => by
    rw [List.nodup_cons] at hn
    have := nodup_sub xs (ys.erase x) hn.2 (fun y hy => by
      have e : y ≠ x := fun e => hn.1 (e ▸ hy)
      exact (List.mem_erase_of_ne e).2 (h y (List.mem_cons_of_mem _ hy)))
    have h2 := List.length_erase_of_mem (h x List.mem_cons_self)
    have h3 : 0 < ys.length := List.length_pos_of_mem (h x List.mem_cons_self)
    simp; omega
theorem LS.row (h : LS ok n Cl A t0 tb fp t vs ids cl ws) (l : Int) : (ws l).length ≤ 1048576 :=
  Nat.le_trans (nodup_sub _ _ (h.wt.nd l) (fun i hi => (h.wt.dn l i hi).1)) h.bd
/-- The one that is looked at. -/
theorem LS.look (h : LS ok n Cl A t0 tb fp t vs ids cl ws) {gone : Int} {K R : List Nat} {i : Nat} (hw : ws gone = K ++ i :: R) : i ∈ ids ∧ i ∉ K ∧ i ∉ R ∧ (gone = w0 (cl i) ∨ gone = w1 (cl i)) := by
  have hm : i ∈ ws gone := by rw [hw]; simp
  have hnd := h.wt.nd gone
  rw [hw] at hnd
  obtain ⟨h1, h2⟩ := h.wt.dn gone i hm
  have h3 := List.nodup_append.1 hnd
  refine ⟨h1, fun hk => h3.2.2 i hk i List.mem_cons_self rfl, (List.nodup_cons.1 h3.2.1).1, h2⟩
/-- All its others are false. -/
theorem LS.unit (h : LS ok n Cl A t0 tb fp t vs ids cl ws) (o : ok) {gone : Int} {i : Nat} (hi : i ∈ ids) (hg : w1 (cl i) = gone) (hgt : -gone ∈ t) (ho : ∀ k z, 2 ≤ k → (cl i)[k]? = some z → -z ∈ t) : Der Cl A (w0 (cl i)) ∧ (-(w0 (cl i)) ∈ t → Con Cl A) := by
  obtain ⟨k1, k2, k3⟩ := h.wt.ok i hi
  have key : ∀ m ∈ cl i, m = w0 (cl i) ∨ -m ∈ t := fun m hm => by
    obtain ⟨k, hk, e⟩ := List.mem_iff_getElem.1 hm
    match k, hk, e with
    | 0, hk, e => exact .inl (by rw [w0_at k1, e])
    | 1, hk, e => right; rw [← e, ← w1_at k1, hg]; exact hgt
    | k + 2, hk, e => exact .inr (ho (k + 2) m (by omega) (List.getElem?_eq_some_iff.2 ⟨hk, e⟩))
  refine ⟨(h.rp o).unit (n := n) h.h0 (h.sn o) hi (mem_w0 k1) key, fun hneg => ?_⟩
  exact (h.rp o).fail (n := n) h.h0 (h.sn o) hi (mem_w0 k1) (fun m hm => (key m hm).elim (fun e => e ▸ hneg) id)
end
/-- What visiting leaves as it was. -/
structure FR (s s' : FS) : Prop where
  b : s'.b = s.b
  vb : s'.vb = s.vb
  ob : s'.ob = s.ob
  mb : s'.mb = s.mb
  ms : s'.ms = s.ms
  fol : s'.fol = s.fol
  rnd : s'.rnd = s.rnd
  brk : s'.brk = s.brk
  ids : s'.ids = s.ids
  ln : s'.ln = s.ln
  cap : s'.cap = s.cap
  t : ∃ ext, s'.t = s.t ++ ext
  fx : s'.fx = s.fx
theorem FR.refl (s : FS) : FR s s := ⟨rfl, rfl, rfl, rfl, rfl, rfl, rfl, rfl, rfl, rfl, rfl, ⟨[], by simp⟩, rfl⟩
theorem FR.trans {a b c : FS} (h : FR a b) (k : FR b c) : FR a c := by
  obtain ⟨x, hx⟩ := h.t
  obtain ⟨y, hy⟩ := k.t
  exact ⟨k.b.trans h.b, k.vb.trans h.vb, k.ob.trans h.ob, k.mb.trans h.mb, k.ms.trans h.ms, k.fol.trans h.fol, k.rnd.trans h.rnd, k.brk.trans h.brk, k.ids.trans h.ids, k.ln.trans h.ln, k.cap.trans h.cap, ⟨x ++ y, by rw [hy, hx, List.append_assoc]⟩, k.fx.trans h.fx⟩
theorem FR.same {s s' : FS} (h : FR s s') {vs' : List Int} {tv : Value} {sv : Nat → Value} {cl : Nat → List Int} {ws : Int → List Nat} {xc : Array Value} : FR s { s' with vs := vs', tv := tv, sv := sv, cl := cl, ws := ws, xc := xc } :=
  ⟨h.b, h.vb, h.ob, h.mb, h.ms, h.fol, h.rnd, h.brk, h.ids, h.ln, h.cap, h.t, h.fx⟩
theorem FR.push {s s' : FS} (h : FR s s') {l : Int} {vs' : List Int} {tv : Value} {sv : Nat → Value} {cl : Nat → List Int} {ws : Int → List Nat} {xc : Array Value} : FR s { s' with t := s'.t ++ [l], vs := vs', tv := tv, sv := sv, cl := cl, ws := ws, xc := xc } := by
  obtain ⟨x, hx⟩ := h.t
  exact ⟨h.b, h.vb, h.ob, h.mb, h.ms, h.fol, h.rnd, h.brk, h.ids, h.ln, h.cap, ⟨x ++ [l], by simp [hx]⟩, h.fx⟩
end Go.Proofs.Ytonfbnbkhpabbaa
