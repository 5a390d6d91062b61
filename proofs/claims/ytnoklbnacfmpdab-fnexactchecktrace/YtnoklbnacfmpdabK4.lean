/- The state between clauses. -/
import Derived.Test.YtnoklbnacfmpdabP10
namespace Go.Proofs.Ytnoklbnacfmpdab
open Go Go.RowKit Gs
set_option linter.unusedVariables false
structure AD (B n : Nat) (w : World) (Cl : List (List Int)) (s : FS) (W : World) : Prop where
  fm : FM B n none W s
  bl : Below B w W
  bw : B ≤ W.heap.size
  ls : LS (s.brk = false) n Cl [] s.t s.t s.t s.t s.vs s.ids s.cl s.ws
  br : s.brk = true → Con Cl []
  fl : s.fol ≤ s.t.length
  fe : s.brk = false → s.fol = s.t.length
  mr : ∀ x ∈ s.ms, x ≤ (s.rnd : Int)
  rn : s.rnd ≤ Cl.length
  il : s.ids.length ≤ Cl.length
section
variable {ok : Prop} {n : Nat} {Cl : List (List Int)} {c A t0 tb fp : List Int} {t vs : List Int} {ids : List Nat} {cl : Nat → List Int} {ws : Int → List Nat}
theorem LS.weak (h : LS ok n Cl A t0 tb fp t vs ids cl ws) {ok' : Prop} {Cl' : List (List Int)} {A' : List Int} (hno : ok' → False) : LS ok' n Cl' A' t0 tb fp t vs ids cl ws :=
  ⟨h.tr, h.vr, h.wt, fun o => (hno o).elim, fun o => (hno o).elim, fun o => (hno o).elim, fun o => (hno o).elim, h.h0, h.hf, h.hb, h.nd, h.bd⟩
theorem Sn.wide (h : Sn Cl A t) (c : List Int) : Sn (Cl ++ [c]) A t := fun l hl => (h l hl).mono (fun x hx => List.mem_append_left _ hx) (fun x hx => hx)
theorem LS.with (h : LS ok n Cl A t0 tb fp t vs ids cl ws) (hr : ok → Rp (Cl ++ [c]) t0 ids cl) : LS ok n (Cl ++ [c]) A t0 tb fp t vs ids cl ws :=
  ⟨h.tr, h.vr, h.wt, hr, h.wa, h.wb, fun o => (h.sn o).wide c, h.h0, h.hf, h.hb, h.nd, h.bd⟩
/-- Of a clause no literal is true: those that are not open are false. -/
theorem VR.allOpen (h : VR n t vs) (hc : Lits n c) (h1 : ∀ l ∈ c, val vs l ≠ 1) : ∀ l ∈ c, l ∈ opens (opP vs) [] c ∨ -l ∈ t := fun l hl => by
  rcases h.three (hc l hl) with e | e | e
  · exact absurd e (h1 l hl)
  · left
    rw [((opens_spec (opP vs) c [] List.nodup_nil).2 l)]
    exact .inr ⟨hl, by unfold opP; rw [e]; rfl⟩
  · exact .inr (h.mone (hc l hl) e)
theorem VR.isOpen (h : VR n t vs) (hc : Lits n c) {l : Int} (hl : l ∈ opens (opP vs) [] c) : l ∈ c ∧ Opn t l := by
  rw [((opens_spec (opP vs) c [] List.nodup_nil).2 l)] at hl
  rcases hl with h1 | ⟨h1, h2⟩
  · cases h1
  · exact ⟨h1, h.open (hc l h1) (by unfold opP at h2; simpa using h2)⟩
theorem con_none (hs : Sn Cl A t) (hf : ∀ l ∈ c, -l ∈ t) : Con (Cl ++ [c]) A := by
  have hs' := hs.wide c
  cases c with
  | nil => exact .inl (by simp)
  | cons l r =>
    refine .inr ⟨l, .step (c := l :: r) (by simp) List.mem_cons_self (fun m hm _ => hs' _ (hf m hm)), hs' _ (hf l List.mem_cons_self)⟩
theorem der_one (hs : Sn Cl A t) {l : Int} (hl : l ∈ c) (hf : ∀ m ∈ c, m = l ∨ -m ∈ t) : Der (Cl ++ [c]) A l :=
  .step (c := c) (by simp) hl (fun m hm hne => hs.wide c _ ((hf m hm).resolve_left hne))
end
section
variable {B n : Nat} {w W : World} {Cl : List (List Int)} {c : List Int} {s : FS} {w' : World} {ms : List Int}
theorem AD.isdone (h : AD B n w Cl s W) (hb : Below B w w') (hz : W.heap.size ≤ w'.heap.size) (hm : ∀ x ∈ ms, x ≤ ((s.rnd + 1 : Nat) : Int)) (hf : FM B n none w' { s with ms := ms, rnd := s.rnd + 1 }) (hd : s.brk = true ∨ ∃ l ∈ c, l ∈ s.t) : AD B n w (Cl ++ [c]) { s with ms := ms, rnd := s.rnd + 1 } w' := by
  have h1 := h.bw
  have h2 := h.rn
  have h3 := h.il
  refine ⟨hf, hb, by omega, h.ls.with (fun o => ?_), fun o => (h.br o).mono (fun x hx => List.mem_append_left _ hx) (fun x hx => hx), h.fl, h.fe, hm, by simp; omega, by simp; omega⟩
  rcases hd with e | e
  · have o' : s.brk = false := o
    rw [e] at o'; cases o'
  · exact (h.ls.rp o).done e
theorem AD.empty (h : AD B n w Cl s W) (hbk : s.brk = false) (hc : Lits n c) (hb : Below B w w') (hz : W.heap.size ≤ w'.heap.size) (hm : ∀ x ∈ ms, x ≤ ((s.rnd + 1 : Nat) : Int)) (hf : FM B n none w' { s with ms := ms, rnd := s.rnd + 1 }) (h1 : ∀ l ∈ c, val s.vs l ≠ 1) (h0 : opens (opP s.vs) [] c = []) : AD B n w (Cl ++ [c]) { s with ms := ms, rnd := s.rnd + 1, brk := true } (w'.setCell ⟨s.b, 6, none⟩ (.bool true)) := by
  have k1 := h.bw
  have k2 := h.rn
  have k3 := h.il
  have hall : ∀ l ∈ c, -l ∈ s.t := fun l hl => by
    rcases h.ls.vr.allOpen hc h1 l hl with e | e
    · rw [h0] at e; cases e
    · exact e
  refine ⟨hf.fld s.fol (s.rnd + 1) true (by rw [heap_set hf.hb]; rfl) (fun k hk => Below.heap_setCell w' ⟨s.b, 6, none⟩ _ k hk), hb.setCell (p := ⟨s.b, 6, none⟩) h.fm.lo.1 _, by simp; omega, h.ls.weak (fun o => by cases o), fun _ => con_none (h.ls.sn hbk) hall, h.fl, (fun o => by cases o), hm, by simp; omega, by simp; omega⟩
end
end Go.Proofs.Ytnoklbnacfmpdab
