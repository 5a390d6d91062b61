/- What holds of the clauses that are followed by, and how it goes on. -/
import Derived.Test.YtnoklbnacfmpdabM4
namespace Go.Proofs.Ytnoklbnacfmpdab
open Go Go.RowKit Gs
set_option linter.unusedVariables false
structure LS (ok : Prop) (n : Nat) (Cl : List (List Int)) (A t0 tb fp : List Int) (t vs : List Int) (ids : List Nat) (cl : Nat → List Int) (ws : Int → List Nat) : Prop where
  tr : TrOK n t
  vr : VR n t vs
  wt : Wt n ids cl ws
  rp : ok → Rp Cl t0 ids cl
  wa : ok → Wa ids cl t fp
  wb : ok → Wa ids cl tb tb
  sn : ok → Sn Cl A t
  h0 : ∀ l ∈ t0, l ∈ t
  hf : ∀ l ∈ fp, l ∈ t
  hb : ∀ l ∈ tb, l ∈ t
  nd : ids.Nodup
  bd : ids.length ≤ 1048576
section
variable {ok : Prop} {n : Nat} {Cl : List (List Int)} {A t0 tb fp : List Int} {t vs : List Int} {ids : List Nat} {cl : Nat → List Int} {ws : Int → List Nat}
theorem LS.swap (h : LS ok n Cl A t0 tb fp t vs ids cl ws) {i : Nat} (hi : i ∈ ids) : LS ok n Cl A t0 tb fp t vs ids (upC cl i (sw (cl i))) ws := by
  obtain ⟨h1, e0, e1⟩ := sw_spec (h.wt.ok i hi).1
  exact ⟨h.tr, h.vr, h.wt.swap h1 e0 e1, fun o => (h.rp o).same h1, fun o => (h.wa o).swap e0 e1, fun o => (h.wb o).swap e0 e1, h.sn, h.h0, h.hf, h.hb, h.nd, h.bd⟩
theorem LS.move (h : LS ok n Cl A t0 tb fp t vs ids cl ws) {i k : Nat} {gone lit : Int} {K R : List Nat} (hi : i ∈ ids) (hk : 2 ≤ k) (hz : (cl i)[k]? = some lit) (hg : w1 (cl i) = gone) (hw : ws gone = K ++ i :: R) (hgt : -gone ∈ t) (hlt : -lit ∉ t) : lit ≠ gone ∧ LS ok n Cl A t0 tb fp t vs ids (upC cl i (mv (cl i) k lit gone)) (upW (upW ws gone (K ++ R)) lit (ws lit ++ [i])) := by
  obtain ⟨k1, k2, k3⟩ := h.wt.ok i hi
  obtain ⟨h1, e0, e1⟩ := mv_spec k1 hk hz hg
  have hn1 : lit ≠ gone := fun e => hlt (e ▸ hgt)
  have hn0 : lit ≠ w0 (cl i) := by
    intro e
    rw [w0_at k1] at e
    obtain ⟨hkl, e2⟩ := List.getElem?_eq_some_iff.1 hz
    exact (List.pairwise_iff_getElem.1 k2) 0 k (by omega) hkl (by omega) (by rw [e2, e])
  exact ⟨hn1, h.tr, h.vr, h.wt.move hi h1 e0 e1 hg hw hn1 hn0, fun o => (h.rp o).same h1, fun o => (h.wa o).move h.tr (fun l hl => hl) h.hf hi e0 e1 hg hgt hlt, fun o => (h.wb o).move h.tr h.hb h.hb hi e0 e1 hg hgt hlt, h.sn, h.h0, h.hf, h.hb, h.nd, h.bd⟩
theorem LS.push (h : LS ok n Cl A t0 tb fp t vs ids cl ws) {l : Int} (hl : Lit n l) (ho : Opn t l) (hd : ok → Der Cl A l) : LS ok n Cl A t0 tb fp (t ++ [l]) (put vs l) ids cl ws :=
  ⟨h.tr.snoc hl ho, h.vr.put hl ho, h.wt, h.rp, fun o => (h.wa o).more l, h.wb, fun o => (h.sn o).snoc (hd o), fun m hm => List.mem_append_left _ (h.h0 m hm), fun m hm => List.mem_append_left _ (h.hf m hm), fun m hm => List.mem_append_left _ (h.hb m hm), h.nd, h.bd⟩
/-- What is kept of those that watched it. -/
def KP (t : List Int) (cl : Nat → List Int) (gone : Int) (K : List Nat) : Prop := ∀ i ∈ K, w1 (cl i) = gone ∧ w0 (cl i) ∈ t
theorem LS.done (h : LS ok n Cl A t0 tb fp t vs ids cl ws) {gone : Int} (hg : -gone ∈ t) (hk : KP t cl gone (ws gone)) : LS ok n Cl A t0 tb (fp ++ [-gone]) t vs ids cl ws := by
  refine ⟨h.tr, h.vr, h.wt, h.rp, fun o => Wa.done h.wt (h.wa o) (fun i hi => ?_), h.wb, h.sn, h.h0, fun l hl => ?_, h.hb, h.nd, h.bd⟩
  · obtain ⟨k1, k2⟩ := hk i hi
    obtain ⟨q1, q2, q3⟩ := h.wt.ok i (h.wt.dn gone i hi).1
    exact ⟨fun e => absurd (e.trans k1.symm) (w_ne q1 q2), fun _ => k2⟩
  · rcases List.mem_append.1 hl with h1 | h1
    · exact h.hf l h1
    · simp at h1; subst h1; exact hg
theorem KP.other {gone : Int} {K : List Nat} (h : KP t cl gone K) {i : Nat} (hi : i ∉ K) (c : List Int) : KP t (upC cl i c) gone K := fun j hj => by
  have e : j ≠ i := fun e => hi (e ▸ hj)
  rw [upC_other e]; exact h j hj
theorem KP.more {gone x : Int} {K : List Nat} (h : KP t cl gone K) : KP (t ++ [x]) cl gone K := fun j hj => ⟨(h j hj).1, List.mem_append_left _ (h j hj).2⟩
theorem KP.snoc {gone : Int} {K : List Nat} (h : KP t cl gone K) {i : Nat} (h1 : w1 (cl i) = gone) (h2 : w0 (cl i) ∈ t) : KP t cl gone (K ++ [i]) := fun j hj => by
  rcases List.mem_append.1 hj with h3 | h3
  · exact h j h3
  · simp at h3; subst h3; exact ⟨h1, h2⟩
theorem nodup_len {c : List Int} (hl : Lits n c) (hn : c.Nodup) : c.length ≤ 2 * n + 2 := by
  have := nodup_bound (2 * n + 2) (c.map plN) ?_ ?_
  · simpa using this
  · rw [List.nodup_iff_pairwise_ne, List.pairwise_map]
    exact hn.imp (fun h e => h (plN_inj e))
  · intro x hx
    obtain ⟨l, h1, h2⟩ := List.mem_map.1 hx
    rw [← h2]; exact plN_lt (hl l h1)
theorem nodup_sub : ∀ (xs ys : List Nat), xs.Nodup → (∀ x ∈ xs, x ∈ ys) → xs.length ≤ ys.length
  | [], ys, _, _ => by simp
  | x :: xs, ys, hn, h => by
    rw [List.nodup_cons] at hn
    have := nodup_sub xs (ys.erase x) hn.2 (fun y hy => by
      have e : y ≠ x := fun e => hn.1 (e ▸ hy)
      exact (List.mem_erase_of_ne e).2 (h y (List.mem_cons_of_mem _ hy)))
    have h2 := List.length_erase_of_mem (h x List.mem_cons_self)
    have h3 : 0 < ys.length := List.length_pos_of_mem (h x List.mem_cons_self)
    simp; omega
theorem LS.row (h : LS ok n Cl A t0 tb fp t vs ids cl ws) (l : Int) : (ws l).length ≤ 1048576 :=
  Nat.le_trans (nodup_sub _ _ (h.wt.nd l) (fun i hi => (h.wt.dn l i hi).1)) h.bd
/-- The one that is looked at. -/
theorem LS.look (h : LS ok n Cl A t0 tb fp t vs ids cl ws) {gone : Int} {K R : List Nat} {i : Nat} (hw : ws gone = K ++ i :: R) : i ∈ ids ∧ i ∉ K ∧ i ∉ R ∧ (gone = w0 (cl i) ∨ gone = w1 (cl i)) := by
  have hm : i ∈ ws gone := by rw [hw]; simp
  have hnd := h.wt.nd gone
  rw [hw] at hnd
  obtain ⟨h1, h2⟩ := h.wt.dn gone i hm
  have h3 := List.nodup_append.1 hnd
  refine ⟨h1, fun hk => h3.2.2 i hk i List.mem_cons_self rfl, (List.nodup_cons.1 h3.2.1).1, h2⟩
/-- All its others are false. -/
theorem LS.unit (h : LS ok n Cl A t0 tb fp t vs ids cl ws) (o : ok) {gone : Int} {i : Nat} (hi : i ∈ ids) (hg : w1 (cl i) = gone) (hgt : -gone ∈ t) (ho : ∀ k z, 2 ≤ k → (cl i)[k]? = some z → -z ∈ t) : Der Cl A (w0 (cl i)) ∧ (-(w0 (cl i)) ∈ t → Con Cl A) := by
  obtain ⟨k1, k2, k3⟩ := h.wt.ok i hi
  have key : ∀ m ∈ cl i, m = w0 (cl i) ∨ -m ∈ t := fun m hm => by
    obtain ⟨k, hk, e⟩ := List.mem_iff_getElem.1 hm
    match k, hk, e with
    | 0, hk, e => exact .inl (by rw [w0_at k1, e])
    | 1, hk, e => right; rw [← e, ← w1_at k1, hg]; exact hgt
    | k + 2, hk, e => exact .inr (ho (k + 2) m (by omega) (List.getElem?_eq_some_iff.2 ⟨hk, e⟩))
  refine ⟨(h.rp o).unit (n := n) h.h0 (h.sn o) hi (mem_w0 k1) key, fun hneg => ?_⟩
  exact (h.rp o).fail (n := n) h.h0 (h.sn o) hi (mem_w0 k1) (fun m hm => (key m hm).elim (fun e => e ▸ hneg) id)
end
/-- What visiting leaves as it was. -/
structure FR (s s' : FS) : Prop where
  b : s'.b = s.b
  vb : s'.vb = s.vb
  ob : s'.ob = s.ob
  mb : s'.mb = s.mb
  ms : s'.ms = s.ms
  fol : s'.fol = s.fol
  rnd : s'.rnd = s.rnd
  brk : s'.brk = s.brk
  ids : s'.ids = s.ids
  ln : s'.ln = s.ln
  cap : s'.cap = s.cap
  t : ∃ ext, s'.t = s.t ++ ext
  fx : s'.fx = s.fx
theorem FR.refl (s : FS) : FR s s := ⟨rfl, rfl, rfl, rfl, rfl, rfl, rfl, rfl, rfl, rfl, rfl, ⟨[], by simp⟩, rfl⟩
theorem FR.trans {a b c : FS} (h : FR a b) (k : FR b c) : FR a c := by
  obtain ⟨x, hx⟩ := h.t
  obtain ⟨y, hy⟩ := k.t
  exact ⟨k.b.trans h.b, k.vb.trans h.vb, k.ob.trans h.ob, k.mb.trans h.mb, k.ms.trans h.ms, k.fol.trans h.fol, k.rnd.trans h.rnd, k.brk.trans h.brk, k.ids.trans h.ids, k.ln.trans h.ln, k.cap.trans h.cap, ⟨x ++ y, by rw [hy, hx, List.append_assoc]⟩, k.fx.trans h.fx⟩
theorem FR.same {s s' : FS} (h : FR s s') {vs' : List Int} {tv : Value} {sv : Nat → Value} {cl : Nat → List Int} {ws : Int → List Nat} {xc : Array Value} : FR s { s' with vs := vs', tv := tv, sv := sv, cl := cl, ws := ws, xc := xc } :=
  ⟨h.b, h.vb, h.ob, h.mb, h.ms, h.fol, h.rnd, h.brk, h.ids, h.ln, h.cap, h.t, h.fx⟩
theorem FR.push {s s' : FS} (h : FR s s') {l : Int} {vs' : List Int} {tv : Value} {sv : Nat → Value} {cl : Nat → List Int} {ws : Int → List Nat} {xc : Array Value} : FR s { s' with t := s'.t ++ [l], vs := vs', tv := tv, sv := sv, cl := cl, ws := ws, xc := xc } := by
  obtain ⟨x, hx⟩ := h.t
  exact ⟨h.b, h.vb, h.ob, h.mb, h.ms, h.fol, h.rnd, h.brk, h.ids, h.ln, h.cap, ⟨x ++ [l], by simp [hx]⟩, h.fx⟩
end Go.Proofs.Ytnoklbnacfmpdab
