/- The program's follow. -/
import Derived.Test.YtnoklbnacfmpdabP9
namespace Go.Proofs.Ytnoklbnacfmpdab
open Go Go.RowKit Gs
set_option linter.unusedVariables false
set_option linter.unusedSimpArgs false
set_option maxRecDepth 100000
structure FR2 (s s' : FS) : Prop where
  b : s'.b = s.b
  vb : s'.vb = s.vb
  ob : s'.ob = s.ob
  mb : s'.mb = s.mb
  ms : s'.ms = s.ms
  rnd : s'.rnd = s.rnd
  brk : s'.brk = s.brk
  ids : s'.ids = s.ids
  ln : s'.ln = s.ln
  cap : s'.cap = s.cap
  t : ∃ ext, s'.t = s.t ++ ext
  fx : s'.fx = s.fx
theorem FR2.refl (s : FS) : FR2 s s := ⟨rfl, rfl, rfl, rfl, rfl, rfl, rfl, rfl, rfl, rfl, ⟨[], by simp⟩, rfl⟩
theorem FR2.then {a b c : FS} (h : FR2 a b) (k : FR b c) {f : Nat} : FR2 a { c with fol := f } := by
  obtain ⟨x, hx⟩ := h.t
  obtain ⟨y, hy⟩ := k.t
  exact ⟨k.b.trans h.b, k.vb.trans h.vb, k.ob.trans h.ob, k.mb.trans h.mb, k.ms.trans h.ms, k.rnd.trans h.rnd, k.brk.trans h.brk, k.ids.trans h.ids, k.ln.trans h.ln, k.cap.trans h.cap, ⟨x ++ y, by simp [hy, hx, List.append_assoc]⟩, k.fx.trans h.fx⟩
def folW (b : Nat) (w : World) : Nat := match w.cell? ⟨b, 2, none⟩ with
  | some (.int _ z) => z.toNat
  | _ => 0
theorem folW_eq {b f : Nat} {w : World} (h : w.cell? ⟨b, 2, none⟩ = some (.int .i64 (f : Int))) : folW b w = f := by unfold folW; rw [h]; simp
structure FO (ok : Prop) (B n : Nat) (w W : World) (s : FS) (Cl : List (List Int)) (A t0 tb : List Int) (r : FS) (wr : World) : Prop where
  fm : FM B n none wr r
  bl : Below B w wr
  sz : W.heap.size ≤ wr.heap.size
  bw : B ≤ wr.heap.size
  fr : FR2 s r
  fl : r.fol ≤ r.t.length
  ls : LS ok n Cl A t0 tb (r.t.take r.fol) r.t r.vs r.ids r.cl r.ws
theorem FO.step {ok : Prop} {B n : Nat} {w W : World} {s : FS} {Cl : List (List Int)} {A t0 tb : List Int} {r : FS} {wr V : World} {z : Int} (h : FO ok B n w W s Cl A t0 tb r wr) (hz : r.t[r.fol]? = some z) {e : Ending} {w' : World} (hq : VQ ok B n w V r Cl A t0 tb (r.t.take r.fol) (-z) e w') (hV : wr.heap.size ≤ V.heap.size) (he : e = .returned (.bool true)) : ∃ r', FM B n none w' r' ∧ r'.b = s.b ∧ r'.fol = r.fol ∧ (∀ w2 : World, w2.heap[s.b]? = some (.cells ({ r' with fol := r.fol + 1 }.flds n) 49) → (∀ k, k ≠ s.b → w2.heap[k]? = w'.heap[k]?) → Below B w w2 → w2.heap.size = w'.heap.size → FO ok B n w W s Cl A t0 tb { r' with fol := r.fol + 1 } w2) := by
  obtain ⟨hb', hs', r', hf', hfr, hor⟩ := hq
  have hls : LS ok n Cl A t0 tb (r.t.take r.fol ++ [-(-z)]) r'.t r'.vs r'.ids r'.cl r'.ws := by
    rcases hor with ⟨_, h1⟩ | ⟨h1, _⟩
    · exact h1
    · rw [he] at h1; cases h1
  have hlt : r.fol < r.t.length := (List.getElem?_eq_some_iff.1 hz).1
  obtain ⟨x, hx⟩ := hfr.t
  have e2 : r'.t.take (r.fol + 1) = r.t.take r.fol ++ [-(-z)] := by
    rw [hx, List.take_append_of_le_length (by omega), List.take_add_one, hz, Int.neg_neg]; rfl
  have hbs : r'.b = s.b := hfr.b.trans h.fr.b
  refine ⟨r', hf', hbs, hfr.fol, fun w2 h1 h2 h3 h4 => ⟨?_, h3, ?_, ?_, h.fr.then hfr, ?_, ?_⟩⟩
  · exact hf'.fld (r.fol + 1) r'.rnd r'.brk (by rw [hbs]; exact h1) (by rw [hbs]; exact h2)
  · have := h.sz; omega
  · have := h.bw; omega
  · show r.fol + 1 ≤ r'.t.length
    rw [hx, List.length_append]; omega
  · show LS ok n Cl A t0 tb (r'.t.take (r.fol + 1)) r'.t r'.vs r'.ids r'.cl r'.ws
    rw [e2]; exact hls
theorem FO.bad {ok : Prop} {B n : Nat} {w W : World} {s : FS} {Cl : List (List Int)} {A t0 tb : List Int} {r : FS} {wr V : World} {z : Int} (h : FO ok B n w W s Cl A t0 tb r wr) {e : Ending} {w' : World} (hq : VQ ok B n w V r Cl A t0 tb (r.t.take r.fol) (-z) e w') (hV : wr.heap.size ≤ V.heap.size) (he : e = .returned (.bool false)) : (ok → Con Cl A) ∧ ∃ r', FO ok B n w W s Cl A t0 tb r' w' := by
  obtain ⟨hb', hs', r', hf', hfr, hor⟩ := hq
  obtain ⟨hcon, hls⟩ : (ok → Con Cl A) ∧ LS ok n Cl A t0 tb (r.t.take r.fol) r'.t r'.vs r'.ids r'.cl r'.ws := by
    rcases hor with ⟨h1, _⟩ | ⟨_, h1⟩
    · rw [he] at h1; cases h1
    · exact h1
  obtain ⟨x, hx⟩ := hfr.t
  have hl := h.fl
  have e2 : r'.t.take r'.fol = r.t.take r.fol := by rw [hfr.fol, hx, List.take_append_of_le_length hl]
  have h1 := h.sz
  have h2 := h.bw
  refine ⟨hcon, r', hf', hb', by omega, by omega, ?_, by rw [hfr.fol, hx, List.length_append]; omega, by rw [e2]; exact hls⟩
  exact h.fr.then (f := r'.fol) hfr
/-- What follow leaves. -/
def FOQ (ok : Prop) (B n : Nat) (w W : World) (s : FS) (Cl : List (List Int)) (A t0 tb : List Int) (e : Ending) (w' : World) : Prop :=
  ∃ r, FO ok B n w W s Cl A t0 tb r w' ∧ ((e = .returned (.bool (!s.brk)) ∧ r.fol = r.t.length) ∨ (e = .returned (.bool false) ∧ (ok → Con Cl A)))
set_option maxHeartbeats 6400000 in
theorem iFollow {ok : Prop} {B n : Nat} {w W : World} {s : FS} {Cl : List (List Int)} {A t0 tb : List Int} (h : FO ok B n w W s Cl A t0 tb s W) (hn : n ≤ 2048) : Calls Try.prog 29 #[.pointer (some ⟨s.b, 0, none⟩)] W (FOQ ok B n w W s Cl A t0 tb) := by
  have H := hide h
  clear h
  go_enter Try.func29, Try.ntmps29
  go_wp2
  go_loopw [2] (fun v2 wr => ∃ r, FO ok B n w W s Cl A t0 tb r wr) (fun v2 wr => n - folW s.b wr)
  case atStart => exact ⟨s, unhide H⟩
  case round =>
    obtain ⟨r, hfo⟩ := hrel
    clear H
    have q1 := hfo.fm.q1
    have q2 := hfo.fm.q2
    have q6 := hfo.fm.q6
    rw [hfo.fr.b] at q1 q2 q6
    rw [hfo.fr.brk] at q6
    obtain ⟨ta, tc, htv⟩ := hfo.fm.tshape
    rw [htv] at q1
    have hfl := hfo.fl
    have htl := hfo.ls.tr.len
    have HMU := hide (folW_eq q2)
    by_cases hlt : r.fol < r.t.length
    · obtain ⟨z, hz⟩ : ∃ z, r.t[r.fol]? = some z := ⟨_, List.getElem?_eq_getElem hlt⟩
      have hzm := List.mem_of_getElem? hz
      have hzl := hfo.ls.tr.lits z hzm
      have hgl : Lit n (-z) := by obtain ⟨a1, a2, a3⟩ := hzl; exact ⟨by omega, by omega, by omega⟩
      obtain ⟨tg, rfl, HCZ⟩ : ∃ tg, ta = some ⟨tg, 0, none⟩ ∧ Hid (wr.cell? ⟨tg, r.fol, none⟩ = some (.int .i64 z)) := by
        have ho := hfo.fm.ht
        rw [htv] at ho
        rcases id ho.2 with ⟨hv, hn0⟩ | ⟨tg, cap, cur, hv, _⟩
        · omega
        · injection hv with e1 e2 e3
          subst e1
          refine ⟨tg, rfl, hide ?_⟩
          have := World.ownsRow.cells ho (g := tg) rfl r.fol (.int .i64 z) (by unfold iL; rw [List.getElem?_map, hz]; rfl)
          rw [Addr.add_lit] at this
          simpa using this
      have HCALL : Hid (∀ V, Below wr.heap.size wr V → Calls Try.prog 34 #[.pointer (some ⟨s.b, 0, none⟩), .int .i64 (-z)] V fun e w' => ∃ b, e = .returned (.bool b) ∧ (∃ V, wr.heap.size ≤ V.heap.size ∧ VQ ok B n w V r Cl A t0 tb (r.t.take r.fol) (-z) (.returned (.bool b)) w')) := hide (fun V hV => by
        have hsz := hV.size
        have hbw := hfo.bw
        have hc := iVisit (hfo.fm.later hV) (hfo.bl.trans (hV.mono hfo.bw)) (by omega) hfo.ls hgl (by rw [Int.neg_neg]; exact hzm) hn
        rw [← hfo.fr.b]
        refine hc.mono ?_
        rintro e w' hq
        have hq2 := hq
        obtain ⟨_, _, _, _, _, hor⟩ := hq2
        rcases hor with ⟨rfl, _⟩ | ⟨rfl, _⟩
        · exact ⟨true, rfl, V, hsz, hq⟩
        · exact ⟨false, rfl, V, hsz, hq⟩)
      have HC1 := hide q1
      have HC2 := hide q2
      obtain ⟨a1, a2, a3⟩ := id hzl
      have zl1 : -2048 ≤ z := by omega
      have zl2 : z ≤ 2048 := by omega
      have i1 : (r.fol : Int) < (r.t.length : Int) := by omega
      have i2 : r.fol ≤ 2048 := by omega
      have HFO := hide hfo
      have HZ := hide hz
      have i3 : r.fol < n := by omega
      clear hfo hz hzm hzl hgl htv a1 a2 a3 hfl htl
      go_wp2
      go_quiet (fail)
      go_wp2_with fail
      have HB0 : Hid (∀ V, Below (wr.drewN nq).heap.size (wr.drewN nq) V → Below wr.heap.size wr V) := hide (fun V hV => (below_drewN (brf wr) nq).trans hV)
      refine foRow (E := fun b w' => ∃ V, wr.heap.size ≤ V.heap.size ∧ VQ ok B n w V r Cl A t0 tb (r.t.take r.fol) (-z) (.returned (.bool b)) w') hlt zl1 zl2 (hide (by simpa using unhide HC1)) (hide (by simpa using unhide HC2)) (hide (by simpa using unhide HCZ)) (hide (fun V hV => unhide HCALL V (unhide HB0 V hV))) _ rfl rfl ?_
      intro a V9 b hnt hdf hkeep hb hE
      obtain ⟨us, rfl, hus⟩ := putAll_of [13, 14, 15, 16, 17, 18, 19, 20, 21, 22, 23, 24, 25, 26] hnt hdf hkeep
      have h26 : us 26 = .bool (!b) := by rw [hus 26]; exact hb
      clear hnt hdf hkeep hus hb HCALL HB0
      simp only [putAll, List.foldl, Act.put, List.setIfInBounds_toArray, List.set_cons_zero, List.set_cons_succ, h26]
      generalize us 13 = z13 at *
      generalize us 14 = z14 at *
      generalize us 15 = z15 at *
      generalize us 16 = z16 at *
      generalize us 17 = z17 at *
      generalize us 18 = z18 at *
      generalize us 19 = z19 at *
      generalize us 20 = z20 at *
      generalize us 21 = z21 at *
      generalize us 22 = z22 at *
      generalize us 23 = z23 at *
      generalize us 24 = z24 at *
      generalize us 25 = z25 at *
      clear h26
      obtain ⟨V, hV, hq⟩ := hE
      cases b with
      | true =>
        obtain ⟨r', hf', hb', hfo', HX⟩ := (unhide HFO).step (unhide HZ) hq hV rfl
        have k2 := hf'.q2
        have kf := hf'.frz 2
        rw [hb', hfo'] at k2
        rw [hb'] at kf
        have HBL := hide hq.1
        have hlo := hf'.lo.1
        rw [hb'] at hlo
        have hhb := hf'.hb
        rw [hb'] at hhb
        have HNX : Hid (FO ok B n w W s Cl A t0 tb { r' with fol := r.fol + 1 } (V9.setCell ⟨s.b, 2, none⟩ (.int .i64 ((r.fol : Int) + 1)))) := hide (by
          refine HX _ ?_ (fun k hk => Below.heap_setCell V9 ⟨s.b, 2, none⟩ _ k hk) ((unhide HBL).setCell (p := ⟨s.b, 2, none⟩) hlo _) (by simp)
          rw [heap_set hhb]; rfl)
        clear HX hq hf' hhb
        go_wp2
        refine ⟨⟨_, unhide HNX⟩, ?_⟩
        have e1 : folW s.b (V9.setCell ⟨s.b, 2, none⟩ (.int .i64 ((r.fol : Int) + 1))) = r.fol + 1 := folW_eq (by have := (unhide HNX).fm.q2; rw [(unhide HNX).fr.b] at this; exact this)
        rw [unhide HMU, e1]
        omega
      | false =>
        obtain ⟨hcon, r', hfo'⟩ := (unhide HFO).bad hq hV rfl
        have HE : Hid (FOQ ok B n w W s Cl A t0 tb (.returned (.bool false)) V9) := hide ⟨r', hfo', .inr ⟨rfl, hcon⟩⟩
        clear hq hcon hfo'
        go_wp2
        exact bodyPost_ret (v := .bool false) (by simp [results, Try.results29, go_sem]) rfl (unhide HE)
    · have i1 : ¬ ((r.fol : Int) < (r.t.length : Int)) := by omega
      have HE : Hid (∀ k, FOQ ok B n w W s Cl A t0 tb (.returned (.bool (!s.brk))) (wr.drewN k)) := hide (fun k => ⟨r, ⟨hfo.fm.keep (fun _ _ _ hc => hc), below_drewN hfo.bl _, hfo.sz, hfo.bw, hfo.fr, hfo.fl, hfo.ls⟩, .inl ⟨rfl, by omega⟩⟩)
      clear hfo
      go_wp2
      go_quiet (fail)
      go_wp2
      exact bodyPost_ret (v := .bool (!s.brk)) (by simp [results, Try.results29, go_sem]) rfl (unhide HE _)
end Go.Proofs.Ytnoklbnacfmpdab
