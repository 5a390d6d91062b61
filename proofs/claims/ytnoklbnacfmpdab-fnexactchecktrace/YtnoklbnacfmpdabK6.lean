/- What shows keeps. -/
import Derived.Test.YtnoklbnacfmpdabP13
import Derived.RangeFuncRecord
namespace Go.Proofs.Ytnoklbnacfmpdab
open Go Go.RowKit Gs
set_option linter.unusedVariables false
/-- A block that was just made is none of its own. -/
theorem FM.frame {B n : Nat} {ex : Option Nat} {W : World} {s : FS} (h : FM B n ex W s) (o : Array Value) (ty : TypeId) : FM B n ex (W.alloc (.cells o ty)) { s with fx := (W.heap.size, o, ty) :: s.fx } := by
  have h1 : FM B n ex (W.alloc (.cells o ty)) s := h.later (bal (brf W) _)
  refine ⟨h1.lo, h1.hb, h1.hv, h1.ho, h1.hm, h1.ht, h1.hw, h1.hc, h1.d1, h1.d2, h1.d3, h1.d4, h1.d5, h1.lv, h1.lm, h1.hx, fun q hq => ?_⟩
  rcases List.mem_cons.1 hq with rfl | hq
  · refine ⟨World.alloc_heap_new W _, ?_, ?_, ?_, ?_, ?_, ?_, ?_⟩
    · have := heap_lt h.hb; exact fun e => by simp only at e; omega
    · have := heap_lt h.hv; exact fun e => by simp only at e; omega
    · have := heap_lt h.ho; exact fun e => by simp only at e; omega
    · have := heap_lt h.hm; exact fun e => by simp only at e; omega
    · intro e
      obtain ⟨o', h2⟩ := own_ty h.ht e
      have := heap_lt h2; simp only at this; omega
    · intro p hp e
      obtain ⟨_, o', h2⟩ := h.d5 p _ hp e
      have := heap_lt h2; simp only at this; omega
    · intro e
      obtain ⟨_, o', h2, _⟩ := h.hc _ e
      have := heap_lt h2; simp only at this; omega
  · have z := h1.fz q hq
    exact ⟨z.at_, z.b, z.vb, z.ob, z.mb, z.tv, z.sv, z.ids⟩
/-- What is no matter any more. -/
theorem FM.drop {B n : Nat} {ex : Option Nat} {W : World} {s : FS} (h : FM B n ex W s) : FM B n ex W { s with fx := [] } :=
  ⟨h.lo, h.hb, h.hv, h.ho, h.hm, h.ht, h.hw, h.hc, h.d1, h.d2, h.d3, h.d4, h.d5, h.lv, h.lm, h.hx, fun q hq => by cases hq⟩
/-- A literal is among the opposites. -/
theorem mem_negs {c : List Int} {l : Int} (h : l ∈ c) : -l ∈ c.map (fun l => -l) := List.mem_map_of_mem h
theorem lits_negs {n : Nat} {c : List Int} (h : Lits n c) : Lits n (c.map fun l => -l) := fun l hl => by
  obtain ⟨m, hm, rfl⟩ := List.mem_map.1 hl
  exact (h m hm).neg
/-- What holds while the literals of a clause are assumed to be false, and behind that. -/
structure SH (B n : Nat) (w : World) (Cl : List (List Int)) (A fp : List Int) (s r : FS) (wr : World) : Prop where
  fm : FM B n none wr r
  bl : Below B w wr
  bw : B ≤ wr.heap.size
  fr : FR2 s r
  ls : LS (s.brk = false) n Cl A s.t s.t fp r.t r.vs r.ids r.cl r.ws
theorem LS.wideA {ok : Prop} {n : Nat} {Cl : List (List Int)} {A t0 tb fp : List Int} {t vs : List Int} {ids : List Nat} {cl : Nat → List Int} {ws : Int → List Nat} (h : LS ok n Cl [] t0 tb fp t vs ids cl ws) : LS ok n Cl A t0 tb fp t vs ids cl ws :=
  ⟨h.tr, h.vr, h.wt, h.rp, h.wa, h.wb, fun o l hl => (h.sn o l hl).mono (fun _ hx => hx) (fun _ hx => by cases hx), h.h0, h.hf, h.hb, h.nd, h.bd⟩
/-- So much is as it was ahead of it. -/
theorem AD.back {B n : Nat} {w W w' : World} {Cl : List (List Int)} {A fp : List Int} {s r : FS} (h : AD B n w Cl s W) {fx : List (Nat × Array Value × TypeId)} (hs : SH B n w Cl A fp { s with fx := fx } r w') {v' : Value} {w2 : World} (hb : Below B w w2) (hz : B ≤ w2.heap.size) (hf : FM B n none w2 { r with vs := wipe r.vs (r.t.drop s.t.length), t := r.t.take s.t.length, tv := v', fol := s.t.length }) : AD B n w Cl { r with vs := wipe r.vs (r.t.drop s.t.length), t := r.t.take s.t.length, tv := v', fol := s.t.length, fx := [] } w2 := by
  obtain ⟨x, hx⟩ := hs.fr.t
  have hx' : r.t = s.t ++ x := hx
  have hbrk : r.brk = s.brk := hs.fr.brk
  have hids : r.ids = s.ids := hs.fr.ids
  have htk : r.t.take s.t.length = s.t := by rw [hx']; simp
  have hl := hs.ls
  have hvr := hl.vr.wipe hl.tr s.t.length
  have h2 := h.ls
  have k1 := h.rn
  have k2 := h.il
  refine ⟨hf.drop, hb, hz, ?_, fun o => h.br (hbrk ▸ o), ?_, fun _ => ?_, ?_, ?_, ?_⟩
  · show LS (r.brk = false) n Cl [] (r.t.take s.t.length) (r.t.take s.t.length) (r.t.take s.t.length) (r.t.take s.t.length) (wipe r.vs (r.t.drop s.t.length)) r.ids r.cl r.ws
    rw [htk] at hvr ⊢
    rw [hbrk]
    exact ⟨h2.tr, hvr, hl.wt, hl.rp, hl.wb, hl.wb, h2.sn, fun _ hm => hm, fun _ hm => hm, fun _ hm => hm, hl.nd, hl.bd⟩
  · show s.t.length ≤ (r.t.take s.t.length).length
    rw [htk]; exact Nat.le_refl _
  · show s.t.length = (r.t.take s.t.length).length
    rw [htk]
  · show ∀ x ∈ r.ms, x ≤ (r.rnd : Int)
    rw [hs.fr.ms, hs.fr.rnd]; exact h.mr
  · show r.rnd ≤ Cl.length
    rw [hs.fr.rnd]; exact k1
  · show r.ids.length ≤ Cl.length
    rw [hids]; exact k2
/-- The beginning. -/
theorem AD.shows {B n : Nat} {w W V : World} {Cl : List (List Int)} {A : List Int} {s : FS} (h : AD B n w Cl s W) {fx : List (Nat × Array Value × TypeId)} (hb : Below B w V) (hz : B ≤ V.heap.size) (hf : FM B n none V { s with fx := fx }) : SH B n w Cl A s.t { s with fx := fx } { s with fx := fx } V :=
  ⟨hf, hb, hz, FR2.refl _, h.ls.wideA⟩
theorem FR2.more {s r : FS} (h : FR2 s r) {l : Int} {vs : List Int} {v' : Value} : FR2 s { r with vs := vs, t := r.t ++ [l], tv := v' } := by
  obtain ⟨x, hx⟩ := h.t
  exact ⟨h.b, h.vb, h.ob, h.mb, h.ms, h.rnd, h.brk, h.ids, h.ln, h.cap, ⟨x ++ [l], by show r.t ++ [l] = _; rw [hx, List.append_assoc]⟩, h.fx⟩
/-- One more is assumed. -/
theorem SH.push {B n : Nat} {w wr w' : World} {Cl : List (List Int)} {A fp : List Int} {s r : FS} (h : SH B n w Cl A fp s r wr) {l : Int} (hl : Lit n l) (hA : l ∈ A) (ho : Opn r.t l) (hb : Below B w w') (hz : B ≤ w'.heap.size) {v' : Value} (hf : FM B n none w' { r with vs := put r.vs l, t := r.t ++ [l], tv := v' }) : SH B n w Cl A fp s { r with vs := put r.vs l, t := r.t ++ [l], tv := v' } w' := by
  have hls := h.ls
  exact ⟨hf, hb, hz, h.fr.more, hls.push hl ho (fun _ => .base hA)⟩
theorem con_br {Cl : List (List Int)} {A : List Int} (h : Con Cl []) : Con Cl A := h.mono (fun _ hx => hx) (fun _ hx => by cases hx)
/-- A literal is true and should be false. -/
theorem SH.clash {B n : Nat} {w W wr : World} {Cl : List (List Int)} {A fp : List Int} {s s0 r : FS} (h0 : AD B n w Cl s0 W) (hbk : s.brk = s0.brk) (h : SH B n w Cl A fp s r wr) {l : Int} (hA : l ∈ A) (hm : -l ∈ r.t) : Con Cl A := by
  have hls := h.ls
  cases e : s.brk with
  | true => exact con_br (h0.br (hbk ▸ e))
  | false => exact .inr ⟨l, .base hA, hls.sn e _ hm⟩
/-- All are assumed; now it is followed. -/
theorem SH.start {B n : Nat} {w W wr : World} {Cl : List (List Int)} {A : List Int} {s s0 r : FS} (h0 : AD B n w Cl s0 W) (hbk : s.brk = s0.brk) (hst : s.t = s0.t) (hfol : r.fol = s0.fol) (h : SH B n w Cl A s.t s r wr) : FO (s.brk = false) B n w wr r Cl A s.t s.t r wr := by
  obtain ⟨x, hx⟩ := h.fr.t
  have hls := h.ls
  have hfl := h0.fl
  refine ⟨h.fm, h.bl, Nat.le_refl _, h.bw, FR2.refl _, by rw [hfol, hx, hst, List.length_append]; omega, ?_⟩
  cases e : s.brk with
  | true =>
    refine ⟨hls.tr, hls.vr, hls.wt, (fun o => by cases o), (fun o => by cases o), (fun o => by cases o), (fun o => by cases o), hls.h0, fun l hl => List.mem_of_mem_take hl, hls.hb, hls.nd, hls.bd⟩
  | false =>
    have e2 : r.t.take r.fol = s.t := by rw [hfol, h0.fe (hbk ▸ e), ← hst, hx]; simp
    rw [e2]
    rw [e] at hls
    exact hls
theorem FR2.trans {a b c : FS} (h : FR2 a b) (k : FR2 b c) : FR2 a c := by
  obtain ⟨x, hx⟩ := h.t
  obtain ⟨y, hy⟩ := k.t
  exact ⟨k.b.trans h.b, k.vb.trans h.vb, k.ob.trans h.ob, k.mb.trans h.mb, k.ms.trans h.ms, k.rnd.trans h.rnd, k.brk.trans h.brk, k.ids.trans h.ids, k.ln.trans h.ln, k.cap.trans h.cap, ⟨x ++ y, by rw [hy, hx, List.append_assoc]⟩, k.fx.trans h.fx⟩
/-- What is told at the end. -/
theorem SH.told {B n : Nat} {w W V : World} {Cl : List (List Int)} {c : List Int} {s s0 r : FS} (h0 : AD B n w Cl s0 W) (hbk : s.brk = s0.brk) (fr : FR2 s r) (hC : ∀ c ∈ Cl, Lits n c) (hc : Lits n c) (hall : ∀ l ∈ c, -l ∈ r.t) {e : Ending} {w' : World} (h : FOQ (s.brk = false) B n w V r Cl (c.map fun l => -l) s.t s.t e w') : ∃ r' fp b, e = .returned (.bool b) ∧ ((!b) = true ↔ Con Cl (c.map fun l => -l)) ∧ SH B n w Cl (c.map fun l => -l) fp s r' w' := by
  obtain ⟨r', hfo, hor⟩ := h
  have hsh : SH B n w Cl (c.map fun l => -l) _ s r' w' := ⟨hfo.fm, hfo.bl, hfo.bw, fr.trans hfo.fr, hfo.ls⟩
  have hrb : r.brk = s.brk := fr.brk
  cases e2 : s.brk with
  | true =>
    have hcon : Con Cl (c.map fun l => -l) := con_br (h0.br (hbk ▸ e2))
    rcases hor with ⟨rfl, _⟩ | ⟨rfl, _⟩
    · exact ⟨r', _, _, rfl, ⟨fun _ => hcon, fun _ => by rw [hrb, e2]; rfl⟩, hsh⟩
    · exact ⟨r', _, _, rfl, ⟨fun _ => hcon, fun _ => rfl⟩, hsh⟩
  | false =>
    rcases hor with ⟨rfl, hfe⟩ | ⟨rfl, hcon⟩
    · refine ⟨r', _, _, rfl, ⟨fun h => ?_, fun h => ?_⟩, hsh⟩
      · rw [hrb, e2] at h; cases h
      · have hl := hfo.ls
        have e3 : r'.t.take r'.fol = r'.t := by rw [hfe]; simp
        rw [e3] at hl
        obtain ⟨x, hx⟩ := hfo.fr.t
        refine absurd h (no_con hl.wt (hl.rp e2) hl.h0 hl.tr (hl.wa e2) hC (lits_negs hc) (fun l hm => ?_))
        obtain ⟨m, hm2, rfl⟩ := List.mem_map.1 hm
        rw [hx]; exact List.mem_append_left _ (hall m hm2)
    · exact ⟨r', _, _, rfl, ⟨fun _ => hcon e2, fun _ => rfl⟩, hsh⟩
end Go.Proofs.Ytnoklbnacfmpdab
