/- The program's visit: what its rounds keep. -/
import Derived.Test.YtnoklbnacfmpdabP6
namespace Go.Proofs.Ytnoklbnacfmpdab
open Go Go.RowKit Gs
set_option linter.unusedVariables false
set_option linter.unusedSimpArgs false
set_option maxRecDepth 100000
structure VI (ok : Prop) (B n : Nat) (w W : World) (s : FS) (Cl : List (List Int)) (A t0 tb fp : List Int) (gone : Int) (g c : Nat) (V : List Nat) (j : Nat) (K : List Nat) (r : FS) (wr : World) : Prop where
  fm : FM B n (some (plN gone)) wr r
  bl : Below B w wr
  sz : W.heap.size ≤ wr.heap.size
  bw : B ≤ wr.heap.size
  fr : FR s r
  svp : (r.sv (plN gone)).ownBlock = some g
  ls : LS ok n Cl A t0 tb fp r.t r.vs r.ids r.cl r.ws
  wsg : r.ws gone = K ++ V.drop j
  rv : RV s.ln s.cap r.xc c V K j
  gl : Lit n gone
  gt : -gone ∈ r.t
  nn : n ≤ 2048
def VQ (ok : Prop) (B n : Nat) (w W : World) (s : FS) (Cl : List (List Int)) (A t0 tb fp : List Int) (gone : Int) (e : Ending) (w' : World) : Prop :=
  Below B w w' ∧ W.heap.size ≤ w'.heap.size ∧ ∃ s', FM B n none w' s' ∧ FR s s' ∧ ((e = .returned (.bool true) ∧ LS ok n Cl A t0 tb (fp ++ [-gone]) s'.t s'.vs s'.ids s'.cl s'.ws) ∨ (e = .returned (.bool false) ∧ (ok → Con Cl A) ∧ LS ok n Cl A t0 tb fp s'.t s'.vs s'.ids s'.cl s'.ws))
section
variable {ok : Prop} {B n : Nat} {w W : World} {s : FS} {Cl : List (List Int)} {A t0 tb fp : List Int} {gone : Int} {g c : Nat} {V : List Nat} {j : Nat} {K : List Nat} {r : FS} {wr : World}
theorem VI.row (h : VI ok B n w W s Cl A t0 tb fp gone g c V j K r wr) : wr.heap[g]? = some (.cells r.xc 28) := h.fm.hx _ g rfl (plN_lt h.gl) h.svp
theorem VI.value (h : VI ok B n w W s Cl A t0 tb fp gone g c V j K r wr) {l : Int} (hl : Lit n l) : Calls Try.prog 33 #[.pointer (some ⟨s.b, 0, none⟩), .int .i64 l] wr fun e w' => e = .returned (.int .i64 (val r.vs l)) ∧ w' = wr := by
  have := iValue h.fm h.ls.vr hl h.nn
  rw [h.fr.b] at this
  exact this
theorem VI.at (h : VI ok B n w W s Cl A t0 tb fp gone g c V j K r wr) {i : Nat} (hi : V[j]? = some i) : r.ws gone = K ++ i :: V.drop (j + 1) := by
  rw [h.wsg]
  congr 1
  obtain ⟨hj, e⟩ := List.getElem?_eq_some_iff.1 hi
  rw [List.drop_eq_getElem_cons hj, e]
theorem VI.head (h : VI ok B n w W s Cl A t0 tb fp gone g c V j K r wr) {i : Nat} (hi : V[j]? = some i) : wr.cell? ⟨g, j, none⟩ = some (.slice (some ⟨i, 0, none⟩) (r.cl i).length (s.cap i)) := by
  have h1 := h.rv.rs j i (Nat.le_refl _) hi
  have h2 := (h.fm.hc i (h.ls.look (h.at hi)).1).1
  rw [h.fr.ln] at h2
  simp only [World.cell?, h.row]
  rw [← h2]
  exact h1
theorem VI.swap (h : VI ok B n w W s Cl A t0 tb fp gone g c V j K r wr) {i : Nat} (hi : V[j]? = some i) (h0 : w0 (r.cl i) = gone) (hk : KP r.t r.cl gone K) : VI ok B n w W s Cl A t0 tb fp gone g c V j K { r with cl := upC r.cl i (sw (r.cl i)) } ((wr.setCell ⟨i, 0, none⟩ (.int .i64 (w1 (r.cl i)))).setCell ⟨i, 1, none⟩ (.int .i64 gone)) ∧ KP r.t (upC r.cl i (sw (r.cl i))) gone K ∧ w1 (upC r.cl i (sw (r.cl i)) i) = gone ∧ w0 (upC r.cl i (sw (r.cl i)) i) = w1 (r.cl i) := by
  obtain ⟨hm, hnK, hnR, _⟩ := h.ls.look (h.at hi)
  obtain ⟨_, e0, e1⟩ := sw_spec (h.ls.wt.ok i hm).1
  have hB : B ≤ i := h.fm.lo.2.2.2.2 i hm
  have h2 := h.fm.two hm h.ls.nd 0 1 (w1 (r.cl i)) gone
  have e : ((r.cl i).set 0 (w1 (r.cl i))).set 1 gone = sw (r.cl i) := by unfold sw; rw [h0]
  rw [e] at h2
  refine ⟨⟨h2, (h.bl.setCell (p := ⟨i, 0, none⟩) hB _).setCell (p := ⟨i, 1, none⟩) hB _, by simpa using h.sz, by simpa using h.bw, h.fr.same, h.svp, h.ls.swap hm, h.wsg, h.rv, h.gl, h.gt, h.nn⟩, hk.other hnK _, ?_, ?_⟩
  · rw [upC_same, e1, h0]
  · rw [upC_same, e0]
theorem VI.watch (h : VI ok B n w W s Cl A t0 tb fp gone g c V j K r wr) (hk : KP r.t r.cl gone K) {i k : Nat} {z : Int} (hi : V[j]? = some i) (h1 : w1 (r.cl i) = gone) (h2 : 2 ≤ k) (hz : (r.cl i)[k]? = some z) (hn : -z ∉ r.t) : Calls Try.prog 31 #[.pointer (some ⟨s.b, 0, none⟩), .int .i64 z, .slice (some ⟨i, 0, none⟩) (r.cl i).length (s.cap i)] ((wr.setCell ⟨i, 1, none⟩ (.int .i64 z)).setCell ⟨i, k, none⟩ (.int .i64 gone)) fun e w' => e = .returned (.tuple #[]) ∧ ∃ r', VI ok B n w W s Cl A t0 tb fp gone g c V (j + 1) K r' w' ∧ KP r'.t r'.cl gone K := by
  have hat := h.at hi
  obtain ⟨hm, hnK, hnR, _⟩ := h.ls.look hat
  have hB : B ≤ i := h.fm.lo.2.2.2.2 i hm
  obtain ⟨hzg, hls⟩ := h.ls.move hm h2 hz h1 hat h.gt hn
  have hzl : Lit n z := (h.ls.wt.ok i hm).2.2 z (List.mem_of_getElem? hz)
  have f2 := (h.fm.two hm h.ls.nd 1 k z gone).names h.gl (K ++ V.drop (j + 1))
  have hpn : plN gone ≠ plN z := fun e => hzg (plN_inj e).symm
  have hbl := (h.bl.setCell (p := ⟨i, 1, none⟩) hB (.int .i64 z)).setCell (p := ⟨i, k, none⟩) hB (.int .i64 gone)
  have hsz : ((wr.setCell ⟨i, 1, none⟩ (.int .i64 z)).setCell ⟨i, k, none⟩ (.int .i64 gone)).heap.size = wr.heap.size := by simp
  have hlen : (upW r.ws gone (K ++ V.drop (j + 1)) z).length ≤ 1048576 := by rw [upW_other hzg]; exact h.ls.row z
  have hc := iWatch f2 hbl (by rw [hsz]; exact h.bw) hzl (by intro e; injection e with e; exact hpn e) i hlen h.nn
  have hln := (h.fm.hc i hm).1
  have hhd : hd r.ln r.cap i = .slice (some ⟨i, 0, none⟩) (r.cl i).length (s.cap i) := by unfold hd; rw [hln, h.fr.cap]
  rw [← h.fr.b, ← hhd]
  refine hc.mono ?_
  rintro e w' ⟨rfl, hb', hs', v', hf'⟩
  rw [hsz] at hs'
  refine ⟨rfl, _, ⟨hf', hb', Nat.le_trans h.sz hs', Nat.le_trans h.bw hs', h.fr.same, ?_, ?_, ?_, h.rv.skip, h.gl, h.gt, h.nn⟩, hk.other hnK _⟩
  · show (upV r.sv (plN z) v' (plN gone)).ownBlock = some g
    unfold upV
    rw [if_neg hpn]
    exact h.svp
  · have e3 : upW (upW r.ws gone (K ++ V.drop (j + 1))) z (upW r.ws gone (K ++ V.drop (j + 1)) z ++ [i]) = upW (upW r.ws gone (K ++ V.drop (j + 1))) z (r.ws z ++ [i]) := by rw [upW_other hzg]
    show LS ok n Cl A t0 tb fp r.t r.vs r.ids (upC r.cl i (((r.cl i).set 1 z).set k gone)) (upW (upW r.ws gone (K ++ V.drop (j + 1))) z (upW r.ws gone (K ++ V.drop (j + 1)) z ++ [i]))
    rw [e3]
    exact hls
  · show upW (upW r.ws gone (K ++ V.drop (j + 1))) z (upW r.ws gone (K ++ V.drop (j + 1)) z ++ [i]) gone = _
    rw [upW_other (Ne.symm hzg), upW_same]
/-- One is kept. -/
theorem VI.keep (h : VI ok B n w W s Cl A t0 tb fp gone g c V j K r wr) {i : Nat} (hi : V[j]? = some i) (o : Obj) : VI ok B n w W s Cl A t0 tb fp gone g c V (j + 1) (K ++ [i]) { r with xc := (r.xc.toList.take K.length ++ [hd s.ln s.cap i] ++ r.xc.toList.drop (K.length + 1)).toArray } ((wr.alloc o).setRow g (r.xc.toList.take K.length ++ [hd s.ln s.cap i] ++ r.xc.toList.drop (K.length + 1)).toArray) := by
  have hB : B ≤ g := (h.fm.d5 _ g (plN_lt h.gl) h.svp).1
  have f1 := h.fm.later (bal (brf wr) o)
  have hsz : ((wr.alloc o).setRow g (r.xc.toList.take K.length ++ [hd s.ln s.cap i] ++ r.xc.toList.drop (K.length + 1)).toArray).heap.size = wr.heap.size + 1 := by
    unfold World.setRow; simp
  have h1 := h.sz
  have h2 := h.bw
  refine ⟨f1.turn (plN_lt h.gl) h.svp, ?_, by omega, by omega, h.fr.same, h.svp, h.ls, ?_, h.rv.keep hi, h.gl, h.gt, h.nn⟩
  · refine (h.bl.alloc h.bw o).trans ⟨rfl, rfl, rfl, by unfold World.setRow; simp, fun k hk => ?_⟩
    exact setRow_other _ _ _ _ (by omega)
  · show r.ws gone = _
    rw [h.at hi]; simp
/-- What follows is assumed. -/
theorem VI.assume {i : Nat} (h : VI ok B n w W s Cl A t0 tb fp gone g c V (j + 1) (K ++ [i]) r wr) (hk : KP r.t r.cl gone K) (h1 : w1 (r.cl i) = gone) (hm : i ∈ r.ids) (ht : w0 (r.cl i) ∈ r.t ∨ (ok → Der Cl A (w0 (r.cl i)) ∧ (-(w0 (r.cl i)) ∈ r.t → Con Cl A))) : Calls Try.prog 28 #[.pointer (some ⟨s.b, 0, none⟩), .int .i64 (w0 (r.cl i))] wr fun e w' => (e = .returned (.bool true) ∧ ∃ r', VI ok B n w W s Cl A t0 tb fp gone g c V (j + 1) (K ++ [i]) r' w' ∧ KP r'.t r'.cl gone (K ++ [i])) ∨ (e = .returned (.bool false) ∧ (ok → Con Cl A) ∧ w' = wr) := by
  obtain ⟨k1, k2, k3⟩ := h.ls.wt.ok i hm
  have hl : Lit n (w0 (r.cl i)) := k3 _ (mem_w0 k1)
  have hc := iAssume h.fm h.bl h.bw h.ls.vr h.ls.tr hl h.nn
  rw [← h.fr.b]
  refine hc.mono ?_
  rintro e w' (⟨hin, rfl, rfl⟩ | ⟨hin, rfl, rfl⟩ | ⟨ho, rfl, hb', hs', v', hf'⟩)
  · exact .inl ⟨rfl, r, h, hk.snoc h1 hin⟩
  · rcases ht with h2 | h2
    · exact absurd hin (h.ls.tr.not h2)
    · exact .inr ⟨rfl, fun o => (h2 o).2 hin, rfl⟩
  · rcases ht with h2 | h2
    · exact absurd h2 ho.1
    · refine .inl ⟨rfl, _, ⟨hf', hb', Nat.le_trans h.sz hs', Nat.le_trans h.bw hs', h.fr.push, h.svp, h.ls.push hl ho (fun o => (h2 o).1), h.wsg, h.rv, h.gl, List.mem_append_left _ h.gt, h.nn⟩, hk.more.snoc h1 (by simp)⟩
/-- All were looked at. -/
theorem VI.end (h : VI ok B n w W s Cl A t0 tb fp gone g c V V.length K r wr) (hk : KP r.t r.cl gone K) : VQ ok B n w W s Cl A t0 tb fp gone (.returned (.bool true)) (wr.setCell ⟨s.ob, plN gone, none⟩ (.slice (some ⟨g, 0, none⟩) K.length c)) := by
  have hB : B ≤ g := (h.fm.d5 _ g (plN_lt h.gl) h.svp).1
  have hw : r.ws gone = K := by rw [h.wsg]; simp
  have hown := h.rv.own (Nat.le_refl _) h.row hB
  have hf := h.fm.shut (v' := .slice (some ⟨g, 0, none⟩) K.length c) h.gl (by rw [hw, h.fr.ln, h.fr.cap]; exact hown) (by rw [h.svp]; rfl)
  rw [← h.fr.ob]
  have hob : B ≤ r.ob := h.fm.lo.2.2.1
  refine ⟨h.bl.setCell (p := ⟨r.ob, plN gone, none⟩) hob _, by simpa using h.sz, _, hf, h.fr.same, .inl ⟨rfl, ?_⟩⟩
  exact h.ls.done h.gt (by rw [hw]; exact hk)
/-- The rest was not looked at. -/
theorem VI.stop (h : VI ok B n w W s Cl A t0 tb fp gone g c V j K r wr) (hj : j ≤ V.length) (hcon : ok → Con Cl A) {V0 : World} (hV0 : Below wr.heap.size wr V0) : VQ ok B n w W s Cl A t0 tb fp gone (.returned (.bool false)) ((V0.setRow g (r.xc.toList.take K.length ++ (V.drop j).map (hd s.ln s.cap) ++ r.xc.toList.drop (K.length + ((V.drop j).map (hd s.ln s.cap)).length)).toArray).setCell ⟨s.ob, plN gone, none⟩ (.slice (some ⟨g, 0, none⟩) (K.length + (V.length - j)) c)) := by
  have hB : B ≤ g := (h.fm.d5 _ g (plN_lt h.gl) h.svp).1
  have f1 := (h.fm.later hV0).turn (cs := (r.xc.toList.take K.length ++ (V.drop j).map (hd s.ln s.cap) ++ r.xc.toList.drop (K.length + ((V.drop j).map (hd s.ln s.cap)).length)).toArray) (plN_lt h.gl) h.svp
  have hlen : (K ++ V.drop j).length = K.length + (V.length - j) := by simp
  have hown := (h.rv.rest hj).own (W := V0.setRow g (r.xc.toList.take K.length ++ (V.drop j).map (hd s.ln s.cap) ++ r.xc.toList.drop (K.length + ((V.drop j).map (hd s.ln s.cap)).length)).toArray) (Nat.le_refl _) (f1.hx _ g rfl (plN_lt h.gl) h.svp) hB
  rw [hlen] at hown
  have hf := f1.shut (v' := .slice (some ⟨g, 0, none⟩) (K.length + (V.length - j)) c) h.gl (by
    show World.ownsRow _ B 28 1 _ (r.ws gone).length ((r.ws gone).map (hd r.ln r.cap))
    rw [h.wsg, hlen, h.fr.ln, h.fr.cap]; exact hown) (by
    show _ = (r.sv (plN gone)).ownBlock
    rw [h.svp]; rfl)
  rw [← h.fr.ob]
  have hob : B ≤ r.ob := h.fm.lo.2.2.1
  have hs0 := hV0.size
  have hs1 := h.sz
  have b1 : Below B w (V0.setRow g (r.xc.toList.take K.length ++ (V.drop j).map (hd s.ln s.cap) ++ r.xc.toList.drop (K.length + ((V.drop j).map (hd s.ln s.cap)).length)).toArray) :=
    (h.bl.trans (hV0.mono h.bw)).trans ⟨rfl, rfl, rfl, by unfold World.setRow; simp, fun k hk => setRow_other _ _ _ _ (by omega)⟩
  refine ⟨b1.setCell (p := ⟨r.ob, plN gone, none⟩) hob _, ?_, _, hf, h.fr.same, .inr ⟨rfl, hcon, h.ls⟩⟩
  have : ((V0.setRow g (r.xc.toList.take K.length ++ (V.drop j).map (hd s.ln s.cap) ++ r.xc.toList.drop (K.length + ((V.drop j).map (hd s.ln s.cap)).length)).toArray).setCell ⟨r.ob, plN gone, none⟩ (.slice (some ⟨g, 0, none⟩) (K.length + (V.length - j)) c)).heap.size = V0.heap.size := by
    unfold World.setRow; simp
  omega
end
end Go.Proofs.Ytnoklbnacfmpdab
