/- The state between clauses: one literal or more are open. -/
import Derived.Test.YtnoklbnacfmpdabK4
namespace Go.Proofs.Ytnoklbnacfmpdab
open Go Go.RowKit Gs
set_option linter.unusedVariables false
section
variable {B n : Nat} {w W : World} {Cl : List (List Int)} {c : List Int} {s : FS} {w' : World} {ms : List Int}
/-- One is open: it is assumed. -/
theorem AD.one (h : AD B n w Cl s W) (hbk : s.brk = false) (hc : Lits n c) (h1 : ∀ l ∈ c, val s.vs l ≠ 1) {l : Int} (h0 : opens (opP s.vs) [] c = [l]) {W2 : World} {v' : Value} (hb : Below B w W2) (hz : B ≤ W2.heap.size) (hf : FM B n none W2 { s with ms := ms, rnd := s.rnd + 1, vs := put s.vs l, t := s.t ++ [l], tv := v' }) : FO True B n w W2 { s with ms := ms, rnd := s.rnd + 1, vs := put s.vs l, t := s.t ++ [l], tv := v' } (Cl ++ [c]) [] (s.t ++ [l]) s.t { s with ms := ms, rnd := s.rnd + 1, vs := put s.vs l, t := s.t ++ [l], tv := v' } W2 := by
  have hm : l ∈ opens (opP s.vs) [] c := by rw [h0]; simp
  obtain ⟨hlc, ho⟩ := h.ls.vr.isOpen hc hm
  have hl := hc l hlc
  have hall : ∀ m ∈ c, m = l ∨ -m ∈ s.t := fun m hmc => by
    rcases h.ls.vr.allOpen hc h1 m hmc with e | e
    · rw [h0] at e; simp at e; exact .inl e
    · exact .inr e
  refine ⟨hf, hb, Nat.le_refl _, hz, FR2.refl _, ?_, ?_⟩
  · show s.fol ≤ (s.t ++ [l]).length
    have := h.fl; simp; omega
  · show LS True n (Cl ++ [c]) [] (s.t ++ [l]) s.t ((s.t ++ [l]).take s.fol) (s.t ++ [l]) (put s.vs l) s.ids s.cl s.ws
    have e : (s.t ++ [l]).take s.fol = s.t := by rw [h.fe hbk]; simp
    rw [e]
    refine ⟨h.ls.tr.snoc hl ho, h.ls.vr.put hl ho, h.ls.wt, fun _ => ((h.ls.rp hbk).more (fun m hm => List.mem_append_left _ hm)).done ⟨l, hlc, by simp⟩, fun _ => (h.ls.wa hbk).more l, fun _ => h.ls.wb hbk, fun _ => ((h.ls.sn hbk).wide c).snoc (der_one (h.ls.sn hbk) hlc hall), fun m hm => hm, fun m hm => List.mem_append_left _ hm, fun m hm => List.mem_append_left _ hm, h.ls.nd, h.ls.bd⟩
theorem AD.follow (h : AD B n w Cl s W) {s2 r : FS} {W2 : World} {t0 tb : List Int} (hm : ∀ x ∈ s2.ms, x ≤ (s2.rnd : Int)) (hrn : s2.rnd = s.rnd + 1) (hid : s2.ids = s.ids) (hbb : s2.b = s.b) (hfo : FO True B n w W2 s2 (Cl ++ [c]) [] t0 tb r w') (b : Bool) (hor : (b = true ∧ r.fol = r.t.length) ∨ (b = false ∧ Con (Cl ++ [c]) [])) : AD B n w (Cl ++ [c]) { r with brk := !b } (w'.setCell ⟨s.b, 6, none⟩ (.bool (!b))) := by
  have k2 := h.rn
  have k3 := h.il
  have hrb : r.b = s.b := hfo.fr.b.trans hbb
  have hmr : ∀ x ∈ r.ms, x ≤ (r.rnd : Int) := by rw [hfo.fr.ms, hfo.fr.rnd]; exact hm
  have hrr : r.rnd ≤ (Cl ++ [c]).length := by rw [hfo.fr.rnd, hrn]; simp; omega
  have hri : r.ids.length ≤ (Cl ++ [c]).length := by rw [hfo.fr.ids, hid]; simp; omega
  have hf : FM B n none (w'.setCell ⟨s.b, 6, none⟩ (.bool (!b))) { r with brk := !b } := by
    have := hfo.fm.fld (W' := w'.setCell ⟨r.b, 6, none⟩ (.bool (!b))) r.fol r.rnd (!b) (by rw [heap_set hfo.fm.hb]; rfl) (fun k hk => Below.heap_setCell w' ⟨r.b, 6, none⟩ _ k hk)
    rw [← hrb]; exact this
  have hlo : B ≤ s.b := by rw [← hrb]; exact hfo.fm.lo.1
  have hbw := hfo.bw
  rcases hor with ⟨rfl, hfe⟩ | ⟨rfl, hcon⟩
  · refine ⟨hf, hfo.bl.setCell (p := ⟨s.b, 6, none⟩) hlo _, by simpa using hbw, ?_, (fun o => by cases o), hfo.fl, fun _ => hfe, hmr, hrr, hri⟩
    have hl := hfo.ls
    have e : r.t.take r.fol = r.t := by rw [hfe]; simp
    rw [e] at hl
    exact ⟨hl.tr, hl.vr, hl.wt, fun _ => (hl.rp trivial).more hl.h0, fun _ => hl.wa trivial, fun _ => hl.wa trivial, fun _ => hl.sn trivial, fun m hm => hm, fun m hm => hm, fun m hm => hm, hl.nd, hl.bd⟩
  · have hl := hfo.ls
    refine ⟨hf, hfo.bl.setCell (p := ⟨s.b, 6, none⟩) hlo _, by simpa using hbw, ?_, fun _ => hcon, hfo.fl, (fun o => by cases o), hmr, hrr, hri⟩
    exact ⟨hl.tr, hl.vr, hl.wt, (fun o => by cases o), (fun o => by cases o), (fun o => by cases o), (fun o => by cases o), fun m hm => hm, fun m hm => hm, fun m hm => hm, hl.nd, hl.bd⟩
/-- Two are open: the clause watches them. -/
theorem AD.two (h : AD B n w Cl s W) (hbk : s.brk = false) (hc : Lits n c) (h1 : ∀ l ∈ c, val s.vs l ≠ 1) (h2 : 2 ≤ (opens (opP s.vs) [] c).length) (hlen : Cl.length < 1000000) {i : Nat} (hi : i ∉ s.ids) : LS (s.brk = false) n (Cl ++ [c]) [] s.t s.t s.t s.t s.vs (s.ids ++ [i]) (upC s.cl i (opens (opP s.vs) [] c)) (upW (upW s.ws (w0 (opens (opP s.vs) [] c)) (s.ws (w0 (opens (opP s.vs) [] c)) ++ [i])) (w1 (opens (opP s.vs) [] c)) (s.ws (w1 (opens (opP s.vs) [] c)) ++ [i])) := by
  obtain ⟨hnd, hmem⟩ := opens_spec (opP s.vs) c [] List.nodup_nil
  have hop := fun l hl => h.ls.vr.isOpen hc (l := l) hl
  have hL : Lits n (opens (opP s.vs) [] c) := fun l hl => hc l (hop l hl).1
  have n0 : -(w0 (opens (opP s.vs) [] c)) ∉ s.t := (hop _ (mem_w0 h2)).2.2
  have n1 : -(w1 (opens (opP s.vs) [] c)) ∉ s.t := (hop _ (mem_w1 h2)).2.2
  have k3 := h.il
  refine ⟨h.ls.tr, h.ls.vr, h.ls.wt.add hi h2 hnd hL, fun o => (h.ls.rp o).add hi (fun l hl => (hop l hl).1) (fun l hl => h.ls.vr.allOpen hc h1 l hl), fun o => (h.ls.wa o).add hi n0 n1, fun o => (h.ls.wb o).add hi n0 n1, fun o => (h.ls.sn o).wide c, h.ls.h0, h.ls.hf, h.ls.hb, ?_, ?_⟩
  · rw [List.nodup_append]
    exact ⟨h.ls.nd, by simp, fun a ha b hb => by simp at hb; subst hb; exact fun e => hi (e ▸ ha)⟩
  · simp; omega
end
end Go.Proofs.Ytnoklbnacfmpdab
