/- The state between clauses. -/
import Derived.Test.YtonfbnbkhpabbaaP9
namespace Go.Proofs.Ytonfbnbkhpabbaa
open Go Go.RowKit Gs
set_option linter.unusedVariables false
structure AD (B n : Nat) (w : World) (Cl : List (List Int)) (s : FS) (W : World) : Prop where
  fm : FM B n none W s
  bl : Below B w W
  bw : B ≤ W.heap.size
  ls : LS (s.brk = false) n Cl [] s.t [] s.t s.t s.vs s.ids s.cl s.ws
  br : s.brk = true → Con Cl []
  fl : s.fol ≤ s.t.length
  fe : s.brk = false → s.fol = s.t.length
  mr : ∀ x ∈ s.ms, x ≤ (s.rnd : Int)
  rn : s.rnd ≤ Cl.length
  il : s.ids.length ≤ Cl.length
section
variable {ok : Prop} {n : Nat} {Cl : List (List Int)} {c A t0 : List Int} {tb : List (List Int)} {fp : List Int} {t vs : List Int} {ids : List Nat} {cl : Nat → List Int} {ws : Int → List Nat}
theorem LS.weak (h : LS ok n Cl A t0 tb fp t vs ids cl ws) {ok' : Prop} {Cl' : List (List Int)} {A' : List Int} (hno : ok' → False) : LS ok' n Cl' A' t0 tb fp t vs ids cl ws :=
  ⟨h.tr, h.vr, h.wt, fun o => (hno o).elim, fun o => (hno o).elim, fun o => (hno o).elim, fun o => (hno o).elim, h.h0, h.hf, h.hb, h.nd, h.bd⟩
theorem Sn.wide (h : Sn Cl A t) (c : List Int) : Sn (Cl ++ [c]) A t := fun l hl => (h l hl).mono (fun x hx => List.mem_append_left _ hx) (fun x hx => hx)
theorem LS.with (h : LS ok n Cl A t0 tb fp t vs ids cl ws) (hr : ok → Rp (Cl ++ [c]) t0 ids cl) : LS ok n (Cl ++ [c]) A t0 tb fp t vs ids cl ws :=
  ⟨h.tr, h.vr, h.wt, hr, h.wa, h.wb, fun o => (h.sn o).wide c, h.h0, h.hf, h.hb, h.nd, h.bd⟩
/-- Of a clause no literal is true: those that are not open are false. -/
theorem VR.allOpen (h : VR n t vs) (hc : Lits n c) (h1 : ∀ l ∈ c, val vs l ≠ 1) : ∀ l ∈ c, l ∈ opens (opP vs) [] c ∨ -l ∈ t := fun l hl => by
  rcases h.three (hc l hl) with e | e | e
  · exact absurd e (h1 l hl)
  · left
    rw [((opens_spec (opP vs) c [] List.nodup_nil).2 l)]
    exact .inr ⟨hl, by unfold opP; rw [e]; rfl⟩
  · exact .inr (h.mone (hc l hl) e)
theorem VR.isOpen (h : VR n t vs) (hc : Lits n c) {l : Int} (hl : l ∈ opens (opP vs) [] c) : l ∈ c ∧ Opn t l := by
  rw [((opens_spec (opP vs) c [] List.nodup_nil).2 l)] at hl
  rcases hl with h1 | ⟨h1, h2⟩
  · cases h1
  · exact ⟨h1, h.open (hc l h1) (by unfold opP at h2; simpa using h2)⟩
theorem con_none (hs : Sn Cl A t) (hf : ∀ l ∈ c, -l ∈ t) : Con (Cl ++ [c]) A := by
  have hs' := hs.wide c
  cases c with
  | nil => exact .inl (by simp)
  | cons l r =>
    refine .inr ⟨l, .step (c := l :: r) (by simp) List.mem_cons_self (fun m hm _ => hs' _ (hf m hm)), hs' _ (hf l List.mem_cons_self)⟩
theorem der_one (hs : Sn Cl A t) {l : Int} (hl : l ∈ c) (hf : ∀ m ∈ c, m = l ∨ -m ∈ t) : Der (Cl ++ [c]) A l :=
  .step (c := c) (by simp) hl (fun m hm hne => hs.wide c _ ((hf m hm).resolve_left hne))
end
section
variable {B n : Nat} {w W : World} {Cl : List (List Int)} {c : List Int} {s : FS} {w' : World} {ms : List Int}
theorem AD.isdone (h : AD B n w Cl s W) (hb : Below B w w') (hz : W.heap.size ≤ w'.heap.size) (hm : ∀ x ∈ ms, x ≤ ((s.rnd + 1 : Nat) : Int)) (hf : FM B n none w' { s with ms := ms, rnd := s.rnd + 1 }) (hd : s.brk = true ∨ ∃ l ∈ c, l ∈ s.t) : AD B n w (Cl ++ [c]) { s with ms := ms, rnd := s.rnd + 1 } w' := by
  have h1 := h.bw
  have h2 := h.rn
  have h3 := h.il
  refine ⟨hf, hb, by omega, h.ls.with (fun o => ?_), fun o => (h.br o).mono (fun x hx => List.mem_append_left _ hx) (fun x hx => hx), h.fl, h.fe, hm, by simp; omega, by simp; omega⟩
  rcases hd with e | e
  · have o' : s.brk = false := o
    rw [e] at o'; cases o'
  · exact (h.ls.rp o).done e
theorem AD.empty (h : AD B n w Cl s W) (hbk : s.brk = false) (hc : Lits n c) (hb : Below B w w') (hz : W.heap.size ≤ w'.heap.size) (hm : ∀ x ∈ ms, x ≤ ((s.rnd + 1 : Nat) : Int)) (hf : FM B n none w' { s with ms := ms, rnd := s.rnd + 1 }) (h1 : ∀ l ∈ c, val s.vs l ≠ 1) (h0 : opens (opP s.vs) [] c = []) : AD B n w (Cl ++ [c]) { s with ms := ms, rnd := s.rnd + 1, brk := true } (w'.setCell ⟨s.b, 6, none⟩ (.bool true)) := by
  have k1 := h.bw
  have k2 := h.rn
  have k3 := h.il
  have hall : ∀ l ∈ c, -l ∈ s.t := fun l hl => by
    rcases h.ls.vr.allOpen hc h1 l hl with e | e
    · rw [h0] at e; cases e
    · exact e
  refine ⟨hf.fld s.fol (s.rnd + 1) true (by rw [heap_set hf.hb]; rfl) (fun k hk => Below.heap_setCell w' ⟨s.b, 6, none⟩ _ k hk), hb.setCell (p := ⟨s.b, 6, none⟩) h.fm.lo.1 _, by simp; omega, h.ls.weak (fun o => by cases o), fun _ => con_none (h.ls.sn hbk) hall, h.fl, (fun o => by cases o), hm, by simp; omega, by simp; omega⟩
end
end Go.Proofs.Ytonfbnbkhpabbaa
namespace Go.Proofs.Ytonfbnbkhpabbaa
open Go Go.RowKit Gs
set_option linter.unusedVariables false
section
variable {B n : Nat} {w W : World} {Cl : List (List Int)} {c : List Int} {s : FS} {w' : World} {ms : List Int}
/-- One is open: it is assumed. -/
theorem AD.one (h : AD B n w Cl s W) (hbk : s.brk = false) (hc : Lits n c) (h1 : ∀ l ∈ c, val s.vs l ≠ 1) {l : Int} (h0 : opens (opP s.vs) [] c = [l]) {W2 : World} {v' : Value} (hb : Below B w W2) (hz : B ≤ W2.heap.size) (hf : FM B n none W2 { s with ms := ms, rnd := s.rnd + 1, vs := put s.vs l, t := s.t ++ [l], tv := v' }) : FO True B n w W2 { s with ms := ms, rnd := s.rnd + 1, vs := put s.vs l, t := s.t ++ [l], tv := v' } (Cl ++ [c]) [] (s.t ++ [l]) [] { s with ms := ms, rnd := s.rnd + 1, vs := put s.vs l, t := s.t ++ [l], tv := v' } W2 := by
  have hm : l ∈ opens (opP s.vs) [] c := by rw [h0]; simp
  obtain ⟨hlc, ho⟩ := h.ls.vr.isOpen hc hm
  have hl := hc l hlc
  have hall : ∀ m ∈ c, m = l ∨ -m ∈ s.t := fun m hmc => by
    rcases h.ls.vr.allOpen hc h1 m hmc with e | e
    · rw [h0] at e; simp at e; exact .inl e
    · exact .inr e
  refine ⟨hf, hb, Nat.le_refl _, hz, FR2.refl _, ?_, ?_⟩
  · show s.fol ≤ (s.t ++ [l]).length
    have := h.fl; simp; omega
  · show LS True n (Cl ++ [c]) [] (s.t ++ [l]) [] ((s.t ++ [l]).take s.fol) (s.t ++ [l]) (put s.vs l) s.ids s.cl s.ws
    have e : (s.t ++ [l]).take s.fol = s.t := by rw [h.fe hbk]; simp
    rw [e]
    refine ⟨h.ls.tr.snoc hl ho, h.ls.vr.put hl ho, h.ls.wt, fun _ => ((h.ls.rp hbk).more (fun m hm => List.mem_append_left _ hm)).done ⟨l, hlc, by simp⟩, fun _ => (h.ls.wa hbk).more l, (fun _ b hb => by cases hb), fun _ => ((h.ls.sn hbk).wide c).snoc (der_one (h.ls.sn hbk) hlc hall), fun m hm => hm, fun m hm => List.mem_append_left _ hm, (fun b hb => by cases hb), h.ls.nd, h.ls.bd⟩
theorem AD.follow (h : AD B n w Cl s W) {s2 r : FS} {W2 : World} {t0 : List Int} {tb : List (List Int)} (hm : ∀ x ∈ s2.ms, x ≤ (s2.rnd : Int)) (hrn : s2.rnd = s.rnd + 1) (hid : s2.ids = s.ids) (hbb : s2.b = s.b) (hfo : FO True B n w W2 s2 (Cl ++ [c]) [] t0 tb r w') (b : Bool) (hor : (b = true ∧ r.fol = r.t.length) ∨ (b = false ∧ Con (Cl ++ [c]) [])) : AD B n w (Cl ++ [c]) { r with brk := !b } (w'.setCell ⟨s.b, 6, none⟩ (.bool (!b))) := by
  have k2 := h.rn
  have k3 := h.il
  have hrb : r.b = s.b := hfo.fr.b.trans hbb
  have hmr : ∀ x ∈ r.ms, x ≤ (r.rnd : Int) := by rw [hfo.fr.ms, hfo.fr.rnd]; exact hm
  have hrr : r.rnd ≤ (Cl ++ [c]).length := by rw [hfo.fr.rnd, hrn]; simp; omega
  have hri : r.ids.length ≤ (Cl ++ [c]).length := by rw [hfo.fr.ids, hid]; simp; omega
  have hf : FM B n none (w'.setCell ⟨s.b, 6, none⟩ (.bool (!b))) { r with brk := !b } := by
    have := hfo.fm.fld (W' := w'.setCell ⟨r.b, 6, none⟩ (.bool (!b))) r.fol r.rnd (!b) (by rw [heap_set hfo.fm.hb]; rfl) (fun k hk => Below.heap_setCell w' ⟨r.b, 6, none⟩ _ k hk)
    rw [← hrb]; exact this
  have hlo : B ≤ s.b := by rw [← hrb]; exact hfo.fm.lo.1
  have hbw := hfo.bw
  rcases hor with ⟨rfl, hfe⟩ | ⟨rfl, hcon⟩
  · refine ⟨hf, hfo.bl.setCell (p := ⟨s.b, 6, none⟩) hlo _, by simpa using hbw, ?_, (fun o => by cases o), hfo.fl, fun _ => hfe, hmr, hrr, hri⟩
    have hl := hfo.ls
    have e : r.t.take r.fol = r.t := by rw [hfe]; simp
    rw [e] at hl
    exact ⟨hl.tr, hl.vr, hl.wt, fun _ => (hl.rp trivial).more hl.h0, fun _ => hl.wa trivial, (fun _ b hb => by cases hb), fun _ => hl.sn trivial, fun m hm => hm, fun m hm => hm, (fun b hb => by cases hb), hl.nd, hl.bd⟩
  · have hl := hfo.ls
    refine ⟨hf, hfo.bl.setCell (p := ⟨s.b, 6, none⟩) hlo _, by simpa using hbw, ?_, fun _ => hcon, hfo.fl, (fun o => by cases o), hmr, hrr, hri⟩
    exact ⟨hl.tr, hl.vr, hl.wt, (fun o => by cases o), (fun o => by cases o), (fun o => by cases o), (fun o => by cases o), fun m hm => hm, fun m hm => hm, (fun b hb => by cases hb), hl.nd, hl.bd⟩
/-- Two are open: the clause watches them. -/
theorem AD.two (h : AD B n w Cl s W) (hbk : s.brk = false) (hc : Lits n c) (h1 : ∀ l ∈ c, val s.vs l ≠ 1) (h2 : 2 ≤ (opens (opP s.vs) [] c).length) (hlen : Cl.length < 1000000) {i : Nat} (hi : i ∉ s.ids) : LS (s.brk = false) n (Cl ++ [c]) [] s.t [] s.t s.t s.vs (s.ids ++ [i]) (upC s.cl i (opens (opP s.vs) [] c)) (upW (upW s.ws (w0 (opens (opP s.vs) [] c)) (s.ws (w0 (opens (opP s.vs) [] c)) ++ [i])) (w1 (opens (opP s.vs) [] c)) (s.ws (w1 (opens (opP s.vs) [] c)) ++ [i])) := by
  obtain ⟨hnd, hmem⟩ := opens_spec (opP s.vs) c [] List.nodup_nil
  have hop := fun l hl => h.ls.vr.isOpen hc (l := l) hl
  have hL : Lits n (opens (opP s.vs) [] c) := fun l hl => hc l (hop l hl).1
  have n0 : -(w0 (opens (opP s.vs) [] c)) ∉ s.t := (hop _ (mem_w0 h2)).2.2
  have n1 : -(w1 (opens (opP s.vs) [] c)) ∉ s.t := (hop _ (mem_w1 h2)).2.2
  have k3 := h.il
  refine ⟨h.ls.tr, h.ls.vr, h.ls.wt.add hi h2 hnd hL, fun o => (h.ls.rp o).add hi (fun l hl => (hop l hl).1) (fun l hl => h.ls.vr.allOpen hc h1 l hl), fun o => (h.ls.wa o).add hi n0 n1, (fun o b hb => by cases hb), fun o => (h.ls.sn o).wide c, h.ls.h0, h.ls.hf, h.ls.hb, ?_, ?_⟩
  · rw [List.nodup_append]
    exact ⟨h.ls.nd, by simp, fun a ha b hb => by simp at hb; subst hb; exact fun e => hi (e ▸ ha)⟩
  · simp; omega
end
end Go.Proofs.Ytonfbnbkhpabbaa
