/- The search of the program: what it keeps. -/
import Derived.Test.YtonfbnbkhpabbaaV6
namespace Go.Proofs.Ytonfbnbkhpabbaa
open Go Go.RowKit Gs
set_option linter.unusedVariables false
/-- The decisions, each with how long the trail was ahead of it. -/
structure SKd (n : Nat) (Cl : List (List Int)) (t0 : List Int) (ds : List (Int × Nat)) (t : List Int) : Prop where
  le : ∀ (i : Nat) d, ds[i]? = some d → d.2 ≤ t.length
  mono : ∀ (i j : Nat) d e, i ≤ j → ds[i]? = some d → ds[j]? = some e → d.2 ≤ e.2
  sn : ∀ (i : Nat) d, ds[i]? = some d → Sn Cl (dL (ds.take i)) (t.take d.2)
  mem : ∀ (i : Nat) d, ds[i]? = some d → ∀ m ∈ dL (ds.take i), m ∈ t.take d.2
  t0 : ∀ (i : Nat) d, ds[i]? = some d → ∀ m ∈ t0, m ∈ t.take d.2
  lit : ∀ d ∈ ds, Lit n d.1
  op : ∀ (i : Nat) d, ds[i]? = some d → Opn (t.take d.2) d.1
def TB (ds : List (Int × Nat)) (t : List Int) : List (List Int) := ds.map fun d => t.take d.2
theorem SKd.nil (n : Nat) (Cl : List (List Int)) (t0 t : List Int) : SKd n Cl t0 [] t := ⟨(fun i d h => by simp at h), (fun i j d e _ h => by simp at h), (fun i d h => by simp at h), (fun i d h => by simp at h), (fun i d h => by simp at h), (fun d h => by cases h), (fun i d h => by simp at h)⟩
section
variable {n : Nat} {Cl : List (List Int)} {t0 t : List Int} {ds : List (Int × Nat)} {l : Int} {m : Nat}
theorem SKd.ext (h : SKd n Cl t0 ds t) (ext : List Int) : SKd n Cl t0 ds (t ++ ext) := by
  have e : ∀ (i : Nat) d, ds[i]? = some d → (t ++ ext).take d.2 = t.take d.2 := fun i d hd => List.take_append_of_le_length (h.le i d hd)
  exact ⟨(fun i d hd => by have := h.le i d hd; rw [List.length_append]; omega), h.mono, (fun i d hd => by rw [e i d hd]; exact h.sn i d hd), (fun i d hd => by rw [e i d hd]; exact h.mem i d hd), (fun i d hd => by rw [e i d hd]; exact h.t0 i d hd), h.lit, (fun i d hd => by rw [e i d hd]; exact h.op i d hd)⟩
theorem SKd.tb (h : SKd n Cl t0 ds t) (ext : List Int) : TB ds (t ++ ext) = TB ds t := by
  unfold TB
  refine List.map_congr_left fun d hd => ?_
  obtain ⟨i, hi⟩ := List.mem_iff_getElem?.1 hd
  exact List.take_append_of_le_length (h.le i d hi)
theorem at_snoc {α : Type} {xs : List α} {x y : α} {i : Nat} (h : (xs ++ [x])[i]? = some y) : (i < xs.length ∧ xs[i]? = some y) ∨ (i = xs.length ∧ y = x) := by
  by_cases hi : i < xs.length
  · rw [List.getElem?_append_left hi] at h; exact .inl ⟨hi, h⟩
  · rw [List.getElem?_append_right (by omega)] at h
    have h0 : i - xs.length = 0 := by
      have := (List.getElem?_eq_some_iff.1 h).1
      simp at this; omega
    rw [h0] at h
    simp at h
    exact .inr ⟨by omega, h.symm⟩
theorem take_snoc {α : Type} {xs : List α} {x : α} {i : Nat} (h : i ≤ xs.length) : (xs ++ [x]).take i = xs.take i := List.take_append_of_le_length h
/-- One more decision. -/
theorem SKd.push (h : SKd n Cl t0 ds t) (hsn : Sn Cl (dL ds) t) (hmem : ∀ x ∈ dL ds, x ∈ t) (h0 : ∀ x ∈ t0, x ∈ t) (hl : Lit n l) (ho : Opn t l) : SKd n Cl t0 (ds ++ [(l, t.length)]) (t ++ [l]) := by
  have k := h.ext [l]
  have e : (t ++ [l]).take t.length = t := by simp
  refine ⟨fun i d hd => ?_, fun i j d e' hij hd he => ?_, fun i d hd => ?_, fun i d hd => ?_, fun i d hd => ?_, fun d hd => ?_, fun i d hd => ?_⟩
  · rcases at_snoc hd with ⟨_, h1⟩ | ⟨_, rfl⟩
    · exact k.le i d h1
    · simp
  · rcases at_snoc hd with ⟨q, h1⟩ | ⟨q, rfl⟩ <;> rcases at_snoc he with ⟨q2, h2⟩ | ⟨q2, rfl⟩
    · exact h.mono i j d e' hij h1 h2
    · exact h.le i d h1
    · omega
    · exact Nat.le_refl _
  · rcases at_snoc hd with ⟨q, h1⟩ | ⟨q, rfl⟩
    · rw [take_snoc (by omega)]; exact k.sn i d h1
    · rw [take_snoc (by omega), q, List.take_length]
      show Sn Cl (dL ds) ((t ++ [l]).take t.length)
      rw [e]; exact hsn
  · rcases at_snoc hd with ⟨q, h1⟩ | ⟨q, rfl⟩
    · rw [take_snoc (by omega)]; exact k.mem i d h1
    · rw [take_snoc (by omega), q, List.take_length]
      show ∀ x ∈ dL ds, x ∈ (t ++ [l]).take t.length
      rw [e]; exact hmem
  · rcases at_snoc hd with ⟨q, h1⟩ | ⟨q, rfl⟩
    · exact k.t0 i d h1
    · show ∀ x ∈ t0, x ∈ (t ++ [l]).take t.length
      rw [e]; exact h0
  · rcases List.mem_append.1 hd with h1 | h1
    · exact h.lit d h1
    · simp at h1; subst h1; exact hl
  · rcases at_snoc hd with ⟨q, h1⟩ | ⟨q, rfl⟩
    · exact k.op i d h1
    · show Opn ((t ++ [l]).take t.length) l
      rw [e]; exact ho
/-- The last decision is taken back. -/
theorem SKd.pop (h : SKd n Cl t0 (ds ++ [(l, m)]) t) : SKd n Cl t0 ds (t.take m) ∧ Sn Cl (dL ds) (t.take m) ∧ (∀ x ∈ dL ds, x ∈ t.take m) ∧ (∀ x ∈ t0, x ∈ t.take m) ∧ Opn (t.take m) l ∧ Lit n l ∧ m ≤ t.length ∧ TB (ds ++ [(l, m)]) t = TB ds (t.take m) ++ [t.take m] := by
  have hlast : (ds ++ [(l, m)])[ds.length]? = some (l, m) := by simp
  have hget : ∀ (i : Nat) d, ds[i]? = some d → (ds ++ [(l, m)])[i]? = some d := fun i d hd => by
    rw [List.getElem?_append_left (List.getElem?_eq_some_iff.1 hd).1]; exact hd
  have htk : ∀ (i : Nat) d, ds[i]? = some d → (ds ++ [(l, m)]).take i = ds.take i := fun i d hd => take_snoc (Nat.le_of_lt (List.getElem?_eq_some_iff.1 hd).1)
  have hle : ∀ (i : Nat) d, ds[i]? = some d → d.2 ≤ m := fun i d hd => h.mono i ds.length d (l, m) (Nat.le_of_lt (List.getElem?_eq_some_iff.1 hd).1) (hget i d hd) hlast
  have hm := h.le _ _ hlast
  have e : ∀ (i : Nat) d, ds[i]? = some d → (t.take m).take d.2 = t.take d.2 := fun i d hd => by rw [List.take_take, Nat.min_eq_left (hle i d hd)]
  refine ⟨⟨fun i d hd => ?_, fun i j d e' hij hd he => h.mono i j d e' hij (hget i d hd) (hget j e' he), fun i d hd => ?_, fun i d hd => ?_, fun i d hd => ?_, fun d hd => h.lit d (List.mem_append_left _ hd), fun i d hd => ?_⟩, ?_, ?_, h.t0 _ _ hlast, h.op _ _ hlast, h.lit (l, m) (by simp), hm, ?_⟩
  · have h1 := hle i d hd
    rw [List.length_take]; simp only at hm; omega
  · rw [e i d hd, ← htk i d hd]; exact h.sn i d (hget i d hd)
  · rw [e i d hd, ← htk i d hd]; exact h.mem i d (hget i d hd)
  · rw [e i d hd]; exact h.t0 i d (hget i d hd)
  · rw [e i d hd]; exact h.op i d (hget i d hd)
  · have := h.sn _ _ hlast
    rw [List.take_left] at this; exact this
  · have := h.mem _ _ hlast
    rw [List.take_left] at this; exact this
  · unfold TB
    rw [List.map_append]
    congr 1
    refine List.map_congr_left fun d hd => ?_
    obtain ⟨i, hi⟩ := List.mem_iff_getElem?.1 hd
    exact (e i d hi).symm
end
section
variable {ok : Prop} {n : Nat} {Cl : List (List Int)} {A t0 : List Int} {tb : List (List Int)} {fp t vs : List Int} {ids : List Nat} {cl : Nat → List Int} {ws : Int → List Nat} {ds : List (Int × Nat)} {l : Int} {m : Nat}
/-- A literal is decided where all is quiet. -/
theorem LS.decide (h : LS ok n Cl A t0 tb t t vs ids cl ws) (hl : Lit n l) (ho : Opn t l) : LS ok n Cl (A ++ [l]) t0 (tb ++ [t]) t (t ++ [l]) (put vs l) ids cl ws := by
  refine ⟨h.tr.snoc hl ho, h.vr.put hl ho, h.wt, h.rp, fun o => (h.wa o).more l, fun o b hb => ?_, fun o x hx => ?_, fun x hx => List.mem_append_left _ (h.h0 x hx), fun x hx => List.mem_append_left _ hx, fun b hb x hx => List.mem_append_left _ ?_, h.nd, h.bd⟩
  · rcases List.mem_append.1 hb with h1 | h1
    · exact h.wb o b h1
    · simp at h1; subst h1; exact h.wa o
  · rcases List.mem_append.1 hx with h1 | h1
    · exact (h.sn o x h1).mono (fun _ hc => hc) (fun _ hc => List.mem_append_left _ hc)
    · simp at h1; subst h1; exact .base (by simp)
  · rcases List.mem_append.1 hb with h1 | h1
    · exact h.hb b h1 x hx
    · simp at h1; subst h1; exact hx
/-- The last decision is taken back: all is quiet. -/
theorem LS.undo (h : LS ok n Cl A t0 (TB (ds ++ [(l, m)]) t) fp t vs ids cl ws) (hk : SKd n Cl t0 (ds ++ [(l, m)]) t) : LS ok n Cl (dL ds) t0 (TB ds (t.take m)) (t.take m) (t.take m) (wipe vs (t.drop m)) ids cl ws := by
  obtain ⟨k1, k2, k3, k4, k5, k6, k7, k8⟩ := hk.pop
  have hwb := h.wb
  rw [k8] at hwb
  refine ⟨h.tr.take m, h.vr.wipe h.tr m, h.wt, h.rp, fun o => hwb o _ (by simp), fun o b hb => hwb o b (List.mem_append_left _ hb), fun o => k2, k4, fun x hx => hx, fun b hb x hx => ?_, h.nd, h.bd⟩
  unfold TB at hb
  obtain ⟨d, hd, rfl⟩ := List.mem_map.1 hb
  exact List.mem_of_mem_take hx
end
end Go.Proofs.Ytonfbnbkhpabbaa
namespace Go.Proofs.Ytonfbnbkhpabbaa
open Go Go.RowKit Gs
set_option linter.unusedVariables false
section
variable (B n most : Nat) (w : World) (Cl : List (List Int)) (t0 : List Int) (sb : Nat) (s : FS) (ds : List (Int × Nat)) (T : List (List Int)) (k : Nat) (W : World)
/-- Decisions are looked at. -/
structure IV : Prop where
  sv : ∃ E dv tv vals, SV B n E W s sb dv tv vals ds T k
  fo : FO (s.brk = false) B n w W s Cl (dL ds) t0 (TB ds s.t) s W
  sk : SKd n Cl t0 ds s.t
  br : s.brk = true → ds = [] ∧ Con Cl []
  me : ∀ l ∈ dL ds, l ∈ s.t
  ln : T.length + ds.length ≤ k
  vs : ∀ R, Vs n most Cl true (dL ds) k T R → Vs n most Cl true [] 0 [] R
/-- All that follows was found, and no contradiction. -/
structure IQ : Prop where
  sv : ∃ E dv tv vals, SV B n E W s sb dv tv vals ds T k
  fm : FM B n none W s
  bl : Below B w W
  bw : B ≤ W.heap.size
  ls : LS (s.brk = false) n Cl (dL ds) t0 (TB ds s.t) s.t s.t s.vs s.ids s.cl s.ws
  fe : s.fol = s.t.length
  sk : SKd n Cl t0 ds s.t
  br : s.brk = false
  me : ∀ l ∈ dL ds, l ∈ s.t
  ln : T.length + ds.length + 1 ≤ k
/-- The decisions have failed. -/
structure IB : Prop where
  sv : ∃ E dv tv vals, SV B n E W s sb dv tv vals ds T k
  fm : FM B n none W s
  bl : Below B w W
  bw : B ≤ W.heap.size
  ls : ∃ A fp, LS (s.brk = false) n Cl A t0 (TB ds s.t) fp s.t s.vs s.ids s.cl s.ws
  sk : SKd n Cl t0 ds s.t
  br : s.brk = true → ds = [] ∧ Con Cl []
  ln : T.length + ds.length + 1 ≤ k
end
section
variable {B n most : Nat} {w : World} {Cl : List (List Int)} {t0 : List Int} {sb : Nat} {s : FS} {ds : List (Int × Nat)} {T : List (List Int)} {k : Nat} {W : World}
theorem val_natP (vs : List Int) (u : Nat) : val vs (u : Int) = vs.getD u 0 := by
  rw [val_pos (by omega)]; congr 1
theorem IQ.con (h : IQ B n w Cl t0 sb s ds T k W) (hC : ∀ c ∈ Cl, Lits n c) : ¬ Con Cl (dL ds) :=
  no_con h.ls.wt (h.ls.rp h.br) h.ls.h0 h.ls.tr (h.ls.wa h.br) hC (fun l hl => by
    unfold dL at hl
    obtain ⟨d, hd, rfl⟩ := List.mem_map.1 hl
    exact h.sk.lit d hd) h.me
theorem IQ.der (h : IQ B n w Cl t0 sb s ds T k W) (l : Int) : Der Cl (dL ds) l ↔ l ∈ s.t :=
  ⟨fun hd => der_mem h.ls.wt (h.ls.rp h.br) h.ls.h0 h.ls.tr (h.ls.wa h.br) h.me l hd, fun hm => h.ls.sn h.br l hm⟩
theorem IQ.fre (h : IQ B n w Cl t0 sb s ds T k W) {u : Nat} (h1 : 1 ≤ u) (h2 : u ≤ n) : Fre Cl (dL ds) u ↔ s.vs.getD u 0 = 0 := by
  have hl : Lit n (u : Int) := ⟨by omega, by omega, by omega⟩
  rw [← val_natP s.vs u]
  constructor
  · intro hf
    exact (h.ls.vr.2 _ hl).2 ⟨fun hm => hf.1 ((h.der _).2 hm), fun hm => hf.2 ((h.der _).2 hm)⟩
  · intro hv
    have := h.ls.vr.open hl hv
    exact ⟨fun hd => this.1 ((h.der _).1 hd), fun hd => this.2 ((h.der _).1 hd)⟩
/-- The model that is told. -/
def mdP (vs : List Int) : List Int := (vs.drop 1).map fun x => max x 0
theorem IQ.mdl (h : IQ B n w Cl t0 sb s ds T k W) : Mdl n Cl (dL ds) (mdP s.vs) := by
  have hlen : s.vs.length = n + 1 := h.ls.vr.1
  refine ⟨by unfold mdP; rw [List.length_map, List.length_drop, hlen]; rfl, fun i hi => ?_⟩
  have hl : Lit n ((i + 1 : Nat) : Int) := ⟨by omega, by omega, by omega⟩
  have e : (mdP s.vs)[i]? = some (max (s.vs.getD (i + 1) 0) 0) := by
    unfold mdP
    rw [List.getElem?_map, List.getElem?_drop, show 1 + i = i + 1 by omega, List.getD_eq_getElem?_getD, List.getElem?_eq_getElem (by omega)]; rfl
  have hv := h.ls.vr.three hl
  rw [val_natP] at hv
  rcases hv with h1 | h1 | h1
  · refine .inl ⟨by rw [e, h1]; rfl, (h.der _).2 (h.ls.vr.one hl (by rw [val_natP]; exact h1))⟩
  · refine .inr ⟨by rw [e, h1]; rfl, fun hd => ?_⟩
    have := (h.ls.vr.2 _ hl).1 ((h.der _).1 hd)
    rw [val_natP] at this; omega
  · refine .inr ⟨by rw [e, h1]; rfl, fun hd => ?_⟩
    have := (h.ls.vr.2 _ hl).1 ((h.der _).1 hd)
    rw [val_natP] at this; omega
theorem IQ.least (h : IQ B n w Cl t0 sb s ds T k W) {z : Int} (hz : LO n s.vs z) : (z = 0 ∧ Ful n Cl (dL ds)) ∨ ∃ v : Nat, z = (v : Int) ∧ 1 ≤ v ∧ v ≤ n ∧ Lst n Cl (dL ds) v ∧ Opn s.t (-(v : Int)) := by
  rcases hz with ⟨rfl, h1⟩ | ⟨v, rfl, h1, h2, h3, h4⟩
  · exact .inl ⟨rfl, fun u hu hun hf => h1 u hu hun ((h.fre hu hun).1 hf)⟩
  · have hl : Lit n (v : Int) := ⟨by omega, by omega, by omega⟩
    have ho := h.ls.vr.open hl (by rw [val_natP]; exact h3)
    refine .inr ⟨v, rfl, h1, h2, ⟨h1, h2, (h.fre h1 h2).2 h3, fun u hu huv hf => h4 u hu huv ((h.fre hu (by omega)).1 hf)⟩, ho.2, by rw [Int.neg_neg]; exact ho.1⟩
/-- It is followed. -/
theorem iFollowV (h : IV B n most w Cl t0 sb s ds T k W) (hn : n ≤ 2048) (hBw : B = w.heap.size) : Calls Try.prog 33 #[.pointer (some ⟨s.b, 0, none⟩)] (W.setCell ⟨sb, 3, none⟩ (.int .i64 ((k : Int) + 1))) fun e w' => (e = .returned (.bool true) ∧ ∃ r, IQ B n w Cl t0 sb r ds T (k + 1) w') ∨ (e = .returned (.bool false) ∧ Con Cl (dL ds) ∧ ∃ r, IB B n w Cl t0 sb r ds T (k + 1) w') := by
  obtain ⟨E, dv, tv, vals, hsv⟩ := h.sv
  have hfo := h.fo
  obtain ⟨W1, hW1⟩ : ∃ W1, W1 = W.setCell ⟨sb, 3, none⟩ (.int .i64 ((k : Int) + 1)) := ⟨_, rfl⟩
  have hsv1 : SV B n E W1 s sb dv tv vals ds T (k + 1) := by rw [hW1]; exact hsv.work
  have hfm1 : FM B n none W1 { s with fx := [] } := by rw [hW1]; exact hfo.fm.mine hsv.ps 3 _
  have hbl1 : Below B w W1 := by rw [hW1]; exact hfo.bl.setCell (p := ⟨sb, 3, none⟩) hsv.lo _
  have hsz : W1.heap.size = W.heap.size := by rw [hW1]; simp
  have hbw := hfo.bw
  rw [← hW1]
  have hfo1 : FO (s.brk = false) B n w W1 { s with fx := [] } Cl (dL ds) t0 (TB ds s.t) { s with fx := [] } W1 := ⟨hfm1, hbl1, Nat.le_refl _, by omega, FR2.refl _, hfo.fl, hfo.ls⟩
  have hsv2 : SV B n E W1 { s with fx := [] } sb dv tv vals ds T (k + 1) := hsv1.bare rfl rfl rfl rfl rfl rfl rfl
  refine (iFollowA hfo1 hn).mono ?_
  rintro e w' ⟨r, hr, hka, hor⟩
  have hrb : r.b = s.b := hr.fr.b
  have hbrk : r.brk = s.brk := hr.fr.brk
  obtain ⟨x, hx⟩ := hr.fr.t
  have hx' : r.t = s.t ++ x := hx
  have hsk : SKd n Cl t0 ds r.t := by rw [hx']; exact h.sk.ext x
  have htb : TB ds r.t = TB ds s.t := by rw [hx']; exact h.sk.tb x
  have hsv' : SV B n E w' r sb dv tv vals ds T (k + 1) := hsv2.call hka hrb hr.sz
  have hls := hr.ls
  rw [← htb, ← hbrk] at hls
  have hln := h.ln
  have hIB : IB B n w Cl t0 sb r ds T (k + 1) w' := ⟨⟨_, _, _, _, hsv'⟩, hr.fm, hr.bl, hr.bw, ⟨_, _, hls⟩, hsk, fun hb => h.br (hbrk ▸ hb), by omega⟩
  have hcb : s.brk = true → Con Cl (dL ds) := fun hb => by
    obtain ⟨e1, e2⟩ := h.br hb
    rw [e1]; exact e2
  rcases hor with ⟨rfl, hfe⟩ | ⟨rfl, hcon⟩
  · cases hb : s.brk with
    | true => exact .inr ⟨rfl, hcb hb, r, hIB⟩
    | false =>
      refine .inl ⟨rfl, r, ⟨⟨_, _, _, _, hsv'⟩, hr.fm, hr.bl, hr.bw, ?_, hfe, hsk, hbrk.trans hb, fun l hl => by rw [hx']; exact List.mem_append_left _ (h.me l hl), by omega⟩⟩
      rw [hfe, List.take_length] at hls
      exact hls
  · refine .inr ⟨rfl, ?_, r, hIB⟩
    cases hb : s.brk with
    | true => exact hcb hb
    | false => exact hcon hb
/-- A literal is decided. -/
theorem iDecideV (h : IQ B n w Cl t0 sb s ds T k W) (hk : k ≤ 4000) (hn : n ≤ 2048) {l : Int} (hl : Lit n l) (ho : Opn s.t l) (hvs : ∀ R, Vs n most Cl true (dL ds ++ [l]) k T R → Vs n most Cl true [] 0 [] R) : Calls Try.prog 35 #[.pointer (some ⟨sb, 0, none⟩), .int .i64 l] W fun e w' => e = .returned (.tuple #[]) ∧ ∃ r, IV B n most w Cl t0 sb r (ds ++ [(l, s.t.length)]) T k w' := by
  obtain ⟨E, dv, tv, vals, hsv⟩ := h.sv
  have hln := h.ln
  refine (iDecide hsv h.fm h.bl h.bw (by omega) h.ls.vr h.ls.tr hl ho hn).mono ?_
  rintro e w' ⟨rfl, hb, hsz, dv', tv', vals', E', v', hsv', hf'⟩
  have hbw := h.bw
  have edl : dL (ds ++ [(l, s.t.length)]) = dL ds ++ [l] := by unfold dL; simp
  refine ⟨rfl, _, ⟨⟨_, _, _, _, hsv'⟩, ⟨hf', hb, Nat.le_refl _, by omega, FR2.refl _, ?_, ?_⟩, ?_, ?_, ?_, ?_, ?_⟩⟩
  · show s.fol ≤ (s.t ++ [l]).length
    rw [h.fe, List.length_append]; omega
  · show LS (s.brk = false) n Cl (dL (ds ++ [(l, s.t.length)])) t0 (TB (ds ++ [(l, s.t.length)]) (s.t ++ [l])) ((s.t ++ [l]).take s.fol) (s.t ++ [l]) (put s.vs l) s.ids s.cl s.ws
    have e1 : (s.t ++ [l]).take s.fol = s.t := by rw [h.fe]; simp
    have e2 : TB (ds ++ [(l, s.t.length)]) (s.t ++ [l]) = TB ds s.t ++ [s.t] := by
      rw [← h.sk.tb [l]]
      unfold TB; rw [List.map_append]; simp
    rw [e1, e2, edl]
    exact h.ls.decide hl ho
  · exact h.sk.push (h.ls.sn h.br) h.me h.ls.h0 hl ho
  · intro hb2
    have e3 : s.brk = true := hb2
    rw [h.br] at e3; cases e3
  · intro x hx
    show x ∈ s.t ++ [l]
    rw [edl] at hx
    rcases List.mem_append.1 hx with h1 | h1
    · exact List.mem_append_left _ (h.me x h1)
    · exact List.mem_append_right _ h1
  · rw [List.length_append]; simp; omega
  · rw [edl]; exact hvs
/-- What failed is put to the trace. -/
theorem iPutV (h : IB B n w Cl t0 sb s ds T k W) (hk : k ≤ 4000) (hn : n ≤ 2048) : Calls Try.prog 36 #[.pointer (some ⟨sb, 0, none⟩)] W fun e w' => e = .returned (.tuple #[]) ∧ Below B w w' ∧ B ≤ w'.heap.size ∧ (∃ E dv tv vals, SV B n E w' { s with fx := [] } sb dv tv vals ds (T ++ [negs (dL ds)]) k) ∧ FM B n none w' { s with fx := [] } := by
  obtain ⟨E, dv, tv, vals, hsv⟩ := h.sv
  have hln := h.ln
  have hbw := h.bw
  refine (iPutFailed hsv h.fm h.bl h.bw (by omega) (by omega) h.sk.lit hn).mono ?_
  rintro e w' ⟨rfl, hb, hsz, tv', vals', E', hsv', hf'⟩
  exact ⟨rfl, hb, by omega, ⟨_, _, _, _, hsv'⟩, hf'⟩
/-- The last decision is taken back. -/
theorem iUndoV {l : Int} {m : Nat} (h : IB B n w Cl t0 sb s (ds ++ [(l, m)]) T k W) {W' : World} (hb : Below B w W') (hbw : B ≤ W'.heap.size) (hsv : ∃ E dv tv vals, SV B n E W' { s with fx := [] } sb dv tv vals (ds ++ [(l, m)]) (T ++ [negs (dL (ds ++ [(l, m)]))]) k) (hf : FM B n none W' { s with fx := [] }) (hk : k ≤ 4000) (hn : n ≤ 2048) : Calls Try.prog 37 #[.pointer (some ⟨sb, 0, none⟩)] W' fun e w' => e = .returned (.int .i64 l) ∧ Lit n l ∧ ∃ r, Opn r.t l ∧ IQ B n w Cl t0 sb r ds (T ++ [negs (dL (ds ++ [(l, m)]))]) k w' := by
  obtain ⟨E, dv, tv, vals, hsv⟩ := hsv
  obtain ⟨A, fp, hls⟩ := h.ls
  obtain ⟨k1, k2, k3, k4, k5, k6, k7, k8⟩ := h.sk.pop
  have hln := h.ln
  simp only [List.length_append, List.length_cons, List.length_nil] at hln
  have hbrk : s.brk = false := by
    cases e : s.brk with
    | false => rfl
    | true => have := (h.br e).1; simp at this
  refine (iUndecide hsv hf hb hbw (by omega) hls.tr k7 hn).mono ?_
  rintro e w' ⟨rfl, hb', hsz, dv', tv', vals', E', v', hsv', hf'⟩
  refine ⟨rfl, k6, _, ?_, ⟨⟨_, _, _, _, hsv'⟩, hf', hb', by omega, hls.undo h.sk, ?_, k1, hbrk, k3, ?_⟩⟩
  · exact k5
  · show m = (s.t.take m).length
    rw [List.length_take]; omega
  · simp; omega
end
end Go.Proofs.Ytonfbnbkhpabbaa
