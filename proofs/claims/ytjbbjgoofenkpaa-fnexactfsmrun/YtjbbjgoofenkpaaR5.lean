/- The specification's FsmRun: a text is appended. -/
import Derived.Test.YtjbbjgoofenkpaaR4
namespace Go.Proofs.Ytjbbjgoofenkpaa
open Go.RowKit Gs
set_option linter.unusedVariables false
set_option linter.unusedSimpArgs false
set_option maxRecDepth 100000
/-- What is known of each operation while a text is appended. -/
def G13 (W0 : World) (Bs : Nat) (acc : List ByteArray) (w : World) (tv : Value) (n c4 b4 o4 lz cz bz oz k t bq oq nq y2 i : Nat) (y : ByteArray) (l : Array Bool) (j : Nat) (V : World) (v : Value) : Prop := match j with
  | 0 => v = tv
  | 1 => v = .pointer (some ⟨w.heap.size, 4, none⟩)
  | 2 => v = .slice (some ⟨b4, o4, none⟩) n c4
  | 3 => v = .int .i64 (t : Int)
  | 4 => v = .pointer (some ⟨b4, o4 + t, none⟩)
  | 5 => v = .slice (some ⟨bq, oq, none⟩) nq y2
  | 6 => v = .slice (some ⟨bz, oz, none⟩) lz cz
  | 7 => v = .int .i64 (k : Int)
  | 8 => v = .pointer (some ⟨bz, oz + k, none⟩)
  | 9 => v = .int .i64 (i : Int)
  | 10 => v = .pointer (some ⟨bq, oq + i, none⟩)
  | 11 => v = .string y
  | 12 => l.getD 13 false = false → ∃ M, v = .slice (some ⟨M, 0, none⟩) 1 1 ∧ W0.heap.size ≤ M ∧ V.cell? ⟨M, 0, none⟩ = some (.string y)
  | 13 => OT Bs V v (acc ++ [y])
  | 14 => OT Bs V v (acc ++ [y])
  | _ => True
/-- What is known of the world. -/
def J13 (W0 w : World) (vs : Array Value) (l : Array Bool) (V : World) : Prop := (l.getD 13 false = false → Below W0.heap.size W0 V) ∧ (l.getD 13 false = true → (∀ j, j ≤ 12 → l.getD j false = true) ∧ Bt 31 w vs V)
theorem getD_so {l : Array Bool} {i j : Nat} (h : j ≠ i) : (l.setIfInBounds i true).getD j false = l.getD j false := getD_set_ne false (fun e => h e.symm)
theorem G13.set {W0 : World} {Bs : Nat} {acc : List ByteArray} {w : World} {tv : Value} {n c4 b4 o4 lz cz bz oz k t bq oq nq y2 i : Nat} {y : ByteArray} {l : Array Bool} {V V' : World} {j k' : Nat} {v : Value} (h : G13 W0 Bs acc w tv n c4 b4 o4 lz cz bz oz k t bq oq nq y2 i y l j V v) (hk : k' ≠ 13) (hb : Below V.heap.size V V') : G13 W0 Bs acc w tv n c4 b4 o4 lz cz bz oz k t bq oq nq y2 i y (l.setIfInBounds k' true) j V' v := by
  unfold G13 at *
  split at h
  case h_13 =>
    intro e
    rw [getD_so (by omega)] at e
    obtain ⟨M, e1, e2, e3⟩ := h e
    exact ⟨M, e1, e2, cell_later hb e3⟩
  case h_14 => exact h.later hb
  case h_15 => exact h.later hb
  all_goals exact h
theorem J13.low {W0 w : World} {vs : Array Value} {l : Array Bool} {V : World} (h : J13 W0 w vs l V) {j : Nat} (hj : j ≤ 12) (hu : l.getD j true = false) : Below W0.heap.size W0 V := by
  refine h.1 ?_
  cases e : l.getD 13 false with
  | false => rfl
  | true =>
    have := (h.2 e).1 j hj
    rw [notDoneB hu] at this
    cases this
theorem st13 {ops : Array Oper} {a0 : Act} {W1 : World} {vs : Array Value} {W0 : World} {Bs : Nat} {acc : List ByteArray} {w : World} {tv : Value} {n c4 b4 o4 lz cz bz oz k t bq oq nq y2 i : Nat} {y : ByteArray} (j : Nat) (hj : j < 12) {o : Oper} (hg : o.guard = none) (h : ∀ l a V, PA ops (G13 W0 Bs acc w tv n c4 b4 o4 lz cz bz oz k t bq oq nq y2 i y) (J13 W0 W1 vs) a0 l a V → l.getD j true = false → (∀ e ∈ o.after, Region.binds .any e = true → l.getD e.on false = true) → Below W0.heap.size W0 V → ∃ x, (execOp a.eval o).run Try.prog V = .ok (.value x) V ∧ ∀ l', G13 W0 Bs acc w tv n c4 b4 o4 lz cz bz oz k t bq oq nq y2 i y l' j V x) : Stp Try.prog ops (G13 W0 Bs acc w tv n c4 b4 o4 lz cz bz oz k t bq oq nq y2 i y) (J13 W0 W1 vs) a0 j o := by
  intro l a V hp hu ha
  have hb := hp.j.low (by omega) hu
  obtain ⟨x, hr, hf⟩ := h l a V hp hu ha hb
  unfold opW
  rw [if_pos (wanted_none hg)]
  refine .inl ⟨x, V, hr, x, rfl, ⟨fun _ => hb, fun e => ?_⟩, hf _, fun _ _ _ _ h => G13.set h (by omega) (brf V)⟩
  rw [getD_so (by omega)] at e
  have := (hp.j.2 e).1 j (by omega)
  rw [notDoneB hu] at this
  cases this
set_option maxHeartbeats 32000000 in
theorem run13 {Q : Exit → Act → World → Prop} (ins ob : Int) (n c2 c3 c4 b2 o2 b3 o3 b4 o4 lz cz bz oz k t bq oq nq y2 i : Nat) (y : ByteArray) (acc : List ByteArray) (tv : Value) (w W : World) (hbx : Bt 31 w #[.int .i64 ins, .int .i64 ob, .slice (some ⟨b2, o2, none⟩) n c2, .slice (some ⟨b3, o3, none⟩) n c3, .slice (some ⟨b4, o4, none⟩) n c4] W) (hown : OT (w.heap.size + 1) W tv acc) (hacc : acc.length ≤ 4096) (hyz : y.size ≤ maxLen)
    (hmz : W.cell? ⟨bz, oz + k, none⟩ = some (.int .i64 (i : Int))) (hm4 : W.cell? ⟨b4, o4 + t, none⟩ = some (.slice (some ⟨bq, oq, none⟩) nq y2)) (hmy : W.cell? ⟨bq, oq + i, none⟩ = some (.string y)) (j1 : (k : Int) < (lz : Int)) (j2 : (t : Int) < (n : Int)) (j3 : (i : Int) < (nq : Int)) (hk : k < 4096) (hs : t < 64) (hi2 : i < 64)
    (u3 u4 u5 u9 u10 u11 u12 u13 u14 u15 u16 u17 u18 u19 u20 u21 u22 u23 u24 u25 u26 u27 u28 u29 u30 u31 u32 u33 u34 u35 u36 u37 u38 u39 u40 u41 u42 u43 u44 u45 u46 u47 u48 u49 u50 u51 u52 u53 u54 u55 u56 u57 u58 u59 u60 u61 u62 u63 u64 u65 : Value) (hQ : ∀ (p51 p52 p53 p54 p55 p56 p57 p58 p59 p60 p61 p62 p63 p64 tv2 : Value) (V : World), Bt 31 w #[.int .i64 ins, .int .i64 ob, .slice (some ⟨b2, o2, none⟩) n c2, .slice (some ⟨b3, o3, none⟩) n c3, .slice (some ⟨b4, o4, none⟩) n c4] V → OT (w.heap.size + 1) V tv2 (acc ++ [y]) → Q .normal { tmps := #[.agg #[.int .i64 ins, .int .i64 ob, .slice (some ⟨b2, o2, none⟩) n c2, .slice (some ⟨b3, o3, none⟩) n c3, .slice (some ⟨b4, o4, none⟩) n c4], .slice (some ⟨bz, oz, none⟩) lz cz, .pointer (some ⟨w.heap.size, 0, none⟩), u3, u4, u5, tv2, .int .i64 (t : Int), .int .i64 (k : Int), u9, u10, u11, u12, u13, u14, u15, u16, u17, u18, u19, u20, u21, u22, u23, u24, u25, u26, u27, u28, u29, u30, u31, u32, u33, u34, u35, u36, u37, u38, u39, u40, u41, u42, u43, u44, u45, u46, u47, u48, u49, u50, p51, p52, p53, p54, p55, p56, p57, p58, p59, p60, p61, p62, p63, p64, u65], defers := [] } V) :
    Code.wp Try.prog (atR13 (bodyOf Try.f5)) Q { tmps := #[.agg #[.int .i64 ins, .int .i64 ob, .slice (some ⟨b2, o2, none⟩) n c2, .slice (some ⟨b3, o3, none⟩) n c3, .slice (some ⟨b4, o4, none⟩) n c4], .slice (some ⟨bz, oz, none⟩) lz cz, .pointer (some ⟨w.heap.size, 0, none⟩), u3, u4, u5, tv, .int .i64 (t : Int), .int .i64 (k : Int), u9, u10, u11, u12, u13, u14, u15, u16, u17, u18, u19, u20, u21, u22, u23, u24, u25, u26, u27, u28, u29, u30, u31, u32, u33, u34, u35, u36, u37, u38, u39, u40, u41, u42, u43, u44, u45, u46, u47, u48, u49, u50, u51, u52, u53, u54, u55, u56, u57, u58, u59, u60, u61, u62, u63, u64, u65], defers := [] } W := by
  have HX := hide hbx
  have hWs := hbx.size
  have HQ : Hid (∀ V, Below W.heap.size W V → V.cell? ⟨w.heap.size, 0, none⟩ = some (.int .i64 ins) ∧ V.cell? ⟨w.heap.size, 1, none⟩ = some (.int .i64 ob) ∧ V.cell? ⟨w.heap.size, 2, none⟩ = some (.slice (some ⟨b2, o2, none⟩) n c2) ∧ V.cell? ⟨w.heap.size, 3, none⟩ = some (.slice (some ⟨b3, o3, none⟩) n c3) ∧ V.cell? ⟨w.heap.size, 4, none⟩ = some (.slice (some ⟨b4, o4, none⟩) n c4)) := hide (fun V h => (hbx.then h).get5)
  have HQQ := hide hQ
  obtain ⟨i0, hi, hz0, hz1, hz2⟩ := info_parts info9
  clear hQ hbx
  conv => arg 2; whnf
  refine wp_plan (G13 W (w.heap.size + 1) acc w tv n c4 b4 o4 lz cz bz oz k t bq oq nq y2 i y) (J13 W w #[.int .i64 ins, .int .i64 ob, .slice (some ⟨b2, o2, none⟩) n c2, .slice (some ⟨b3, o3, none⟩) n c3, .slice (some ⟨b4, o4, none⟩) n c4]) (by kernel_rfl) 66 (by kernel_rfl) (by kernel_rfl) ?hj ?hs ?hf
  case hj => exact ⟨fun _ => bdr (brf W), fun h => (by simp [Array.getD] at h)⟩
  case hs =>
    refine ⟨?_, ?_, ?_, ?_, ?_, ?_, ?_, ?_, ?_, ?_, ?_, ?_, ?_, ?_, ?_, trivial⟩
    · exact st13 0 (by decide) rfl (fun l a V hp hu ha hb => ⟨tv, by
        have x6 := (ev_form a 6).trans (old2 hp hu 6 14 (v := tv) (by kernel_rfl) (by kernel_rfl) (by kernel_rfl))
        go_simp, fun _ => rfl⟩)
    · exact st13 1 (by decide) rfl (fun l a V hp hu ha hb => ⟨.pointer (some ⟨w.heap.size, 4, none⟩), by
        have x2 := (ev_form a 2).trans (old hp 2 (v := .pointer (some ⟨w.heap.size, 0, none⟩)) (by kernel_rfl) (by kernel_rfl))
        go_simp, fun _ => rfl⟩)
    · exact st13 2 (by decide) rfl (fun l a V hp hu ha hb => ⟨.slice (some ⟨b4, o4, none⟩) n c4, by
        have x52 := (ev_form a 52).trans (show a.eval (.tmp 52) = .pointer (some ⟨w.heap.size, 4, none⟩) from kn hp ha 52 1 (by kernel_rfl) (by kernel_rfl))
        obtain ⟨q0, q1, q2, q3, q4⟩ := unhide HQ V hb
        go_simp, fun _ => rfl⟩)
    · exact st13 3 (by decide) rfl (fun l a V hp hu ha hb => ⟨.int .i64 (t : Int), by
        have x7 := (ev_form a 7).trans (old hp 7 (v := .int .i64 (t : Int)) (by kernel_rfl) (by kernel_rfl))
        go_simp, fun _ => rfl⟩)
    · exact st13 4 (by decide) rfl (fun l a V hp hu ha hb => ⟨.pointer (some ⟨b4, o4 + t, none⟩), by
        have x53 := (ev_form a 53).trans (show a.eval (.tmp 53) = .slice (some ⟨b4, o4, none⟩) n c4 from kn hp ha 53 2 (by kernel_rfl) (by kernel_rfl))
        have x54 := (ev_form a 54).trans (show a.eval (.tmp 54) = .int .i64 (t : Int) from kn hp ha 54 3 (by kernel_rfl) (by kernel_rfl))
        go_simp, fun _ => rfl⟩)
    · exact st13 5 (by decide) rfl (fun l a V hp hu ha hb => ⟨.slice (some ⟨bq, oq, none⟩) nq y2, by
        have x55 := (ev_form a 55).trans (show a.eval (.tmp 55) = .pointer (some ⟨b4, o4 + t, none⟩) from kn hp ha 55 4 (by kernel_rfl) (by kernel_rfl))
        have m4 := cell_later hb hm4
        go_simp, fun _ => rfl⟩)
    · exact st13 6 (by decide) rfl (fun l a V hp hu ha hb => ⟨.slice (some ⟨bz, oz, none⟩) lz cz, by
        have x1 := (ev_form a 1).trans (old hp 1 (v := .slice (some ⟨bz, oz, none⟩) lz cz) (by kernel_rfl) (by kernel_rfl))
        go_simp, fun _ => rfl⟩)
    · exact st13 7 (by decide) rfl (fun l a V hp hu ha hb => ⟨.int .i64 (k : Int), by
        have x8 := (ev_form a 8).trans (old hp 8 (v := .int .i64 (k : Int)) (by kernel_rfl) (by kernel_rfl))
        go_simp, fun _ => rfl⟩)
    · exact st13 8 (by decide) rfl (fun l a V hp hu ha hb => ⟨.pointer (some ⟨bz, oz + k, none⟩), by
        have x57 := (ev_form a 57).trans (show a.eval (.tmp 57) = .slice (some ⟨bz, oz, none⟩) lz cz from kn hp ha 57 6 (by kernel_rfl) (by kernel_rfl))
        have x58 := (ev_form a 58).trans (show a.eval (.tmp 58) = .int .i64 (k : Int) from kn hp ha 58 7 (by kernel_rfl) (by kernel_rfl))
        go_simp, fun _ => rfl⟩)
    · exact st13 9 (by decide) rfl (fun l a V hp hu ha hb => ⟨.int .i64 (i : Int), by
        have x59 := (ev_form a 59).trans (show a.eval (.tmp 59) = .pointer (some ⟨bz, oz + k, none⟩) from kn hp ha 59 8 (by kernel_rfl) (by kernel_rfl))
        have mz := cell_later hb hmz
        go_simp, fun _ => rfl⟩)
    · exact st13 10 (by decide) rfl (fun l a V hp hu ha hb => ⟨.pointer (some ⟨bq, oq + i, none⟩), by
        have x56 := (ev_form a 56).trans (show a.eval (.tmp 56) = .slice (some ⟨bq, oq, none⟩) nq y2 from kn hp ha 56 5 (by kernel_rfl) (by kernel_rfl))
        have x60 := (ev_form a 60).trans (show a.eval (.tmp 60) = .int .i64 (i : Int) from kn hp ha 60 9 (by kernel_rfl) (by kernel_rfl))
        go_simp, fun _ => rfl⟩)
    · exact st13 11 (by decide) rfl (fun l a V hp hu ha hb => ⟨.string y, by
        have x61 := (ev_form a 61).trans (show a.eval (.tmp 61) = .pointer (some ⟨bq, oq + i, none⟩) from kn hp ha 61 10 (by kernel_rfl) (by kernel_rfl))
        have my := cell_later hb hmy
        go_simp, fun _ => rfl⟩)
    · intro l a V hp hu ha
      have hb := hp.j.low (by decide) hu
      have x62 := (ev_form a 62).trans (show a.eval (.tmp 62) = .string y from kn hp ha 62 11 (by kernel_rfl) (by kernel_rfl))
      unfold opW
      rw [if_pos (wanted_none rfl)]
      refine .inl ⟨.slice (some ⟨V.heap.size, 0, none⟩) 1 1, V.alloc (.cells #[.string y] 9), by go_simp, _, rfl, ⟨fun _ => bal hb _, fun e => ?_⟩, fun _ => ⟨V.heap.size, rfl, hb.size, by rw [World.cell?_alloc_new]; rfl⟩, fun _ _ _ _ h => G13.set h (by decide) (bal (brf V) _)⟩
      rw [getD_so (by decide)] at e
      have := (hp.j.2 e).1 12 (by decide)
      rw [notDoneB hu] at this
      cases this
    · intro l a V hp hu ha
      have D0 := onB_spec (by kernel_rfl : onB _ 0 = true) ha
      have D12 := onB_spec (by kernel_rfl : onB _ 12 = true) ha
      have D11 := onB_spec (by kernel_rfl : onB _ 11 = true) (hp.down 12 _ rfl D12)
      have D10 := onB_spec (by kernel_rfl : onB _ 10 = true) (hp.down 11 _ rfl D11)
      have D5 := onB_spec (by kernel_rfl : onB _ 5 = true) (hp.down 10 _ rfl D10)
      have D9 := onB_spec (by kernel_rfl : onB _ 9 = true) (hp.down 10 _ rfl D10)
      have D4 := onB_spec (by kernel_rfl : onB _ 4 = true) (hp.down 5 _ rfl D5)
      have D2 := onB_spec (by kernel_rfl : onB _ 2 = true) (hp.down 4 _ rfl D4)
      have D3 := onB_spec (by kernel_rfl : onB _ 3 = true) (hp.down 4 _ rfl D4)
      have D1 := onB_spec (by kernel_rfl : onB _ 1 = true) (hp.down 2 _ rfl D2)
      have D8 := onB_spec (by kernel_rfl : onB _ 8 = true) (hp.down 9 _ rfl D9)
      have D6 := onB_spec (by kernel_rfl : onB _ 6 = true) (hp.down 8 _ rfl D8)
      have D7 := onB_spec (by kernel_rfl : onB _ 7 = true) (hp.down 8 _ rfl D8)
      have h13 := notDoneB hu
      have hb := hp.j.1 h13
      have hsz : 13 < l.size := by rw [hp.sz]; decide
      obtain ⟨M, hv63, hM, hMc⟩ := (show l.getD 13 false = false → _ from kn hp ha 63 12 (by kernel_rfl) (by kernel_rfl)) h13
      have hv51 : a.eval (.tmp 51) = tv := kn hp ha 51 0 (by kernel_rfl) (by kernel_rfl)
      unfold opW
      rw [if_pos (wanted_none rfl)]
      obtain ⟨v', w', hr, h2, h3, _⟩ := run_append_own (P := Try.prog) V (w.heap.size + 1) 22 22 9 i0 (.string ByteArray.empty) 1 16 Try.underlying22 hi hz0 hz1 hz2 rfl (by decide) tv acc.length _ (hown.later hb).1 ⟨M, 0, none⟩ 1 1 [.string y] rfl (by
        intro j u hj
        match j, hj with
        | 0, hj => simp at hj; subst hj; simpa [Addr.add] using hMc
        | j + 1, hj => simp at hj) (oneT _) (by unfold maxLen; omega) (by omega) (by have := hb.size; omega)
      refine .inl ⟨v', w', ?_, v', rfl, ⟨fun e => ?_, fun _ => ⟨fun j hj => ?_, OT.frame ((unhide HX).then hb) (hown.later hb) h3⟩⟩, OT.step h2 hown.2 hyz, fun j d hd hj hG => ?_⟩
      · unfold execOp
        simp only [resolve, invoke, builtin, Sem.run_bind, Sem.run_pure, Result.andThen_ok, List.map_toArray, List.map_cons, List.map_nil, hv51, hv63, hr]
      · rw [set_ite hsz, if_pos rfl] at e; cases e
      · rw [getD_so (by omega)]
        match j, hj with
        | 0, _ => exact D0
        | 1, _ => exact D1
        | 2, _ => exact D2
        | 3, _ => exact D3
        | 4, _ => exact D4
        | 5, _ => exact D5
        | 6, _ => exact D6
        | 7, _ => exact D7
        | 8, _ => exact D8
        | 9, _ => exact D9
        | 10, _ => exact D10
        | 11, _ => exact D11
        | 12, _ => exact D12
      · match j, hj, hG with
        | 0, _, hG => exact hG
        | 1, _, hG => exact hG
        | 2, _, hG => exact hG
        | 3, _, hG => exact hG
        | 4, _, hG => exact hG
        | 5, _, hG => exact hG
        | 6, _, hG => exact hG
        | 7, _, hG => exact hG
        | 8, _, hG => exact hG
        | 9, _, hG => exact hG
        | 10, _, hG => exact hG
        | 11, _, hG => exact hG
        | 12, _, _ => intro e; rw [set_ite hsz, if_pos rfl] at e; cases e
        | 13, hj, _ => rw [h13] at hj; cases hj
        | 14, hj, _ => exact absurd (onB_spec (by kernel_rfl : onB _ 13 = true) (hp.down 14 _ rfl hj)) (by rw [h13]; decide)
        | j + 15, _, _ => trivial
    · intro l a V hp hu ha
      have hG := kn hp ha 64 13 (by kernel_rfl) (by kernel_rfl)
      have D13 := onB_spec (by kernel_rfl : onB _ 13 = true) ha
      obtain ⟨ta, tl2, tc, hv⟩ := OT.shape hG
      have x64 := (ev_form a 64).trans hv
      unfold opW
      rw [if_pos (wanted_none rfl)]
      refine .inl ⟨a.eval (.tmp 64), V, by rw [hv]; go_simp, _, rfl, ⟨fun e => ?_, fun _ => ⟨fun j hj => ?_, (hp.j.2 D13).2⟩⟩, hG, fun _ _ _ _ h => G13.set h (by decide) (brf V)⟩
      · rw [getD_so (by decide), D13] at e; cases e
      · rw [getD_so (by omega)]; exact (hp.j.2 D13).1 j hj
  case hf =>
    intro l a V hp hdone
    have hB13 := (hp.j.2 (hdone 13 (by decide))).2
    have hO := hp.good 14 _ 6 rfl rfl (hdone 14 (by decide))
    obtain ⟨us, ea, hus⟩ := putAll_of [51, 52, 53, 54, 55, 56, 57, 58, 59, 60, 61, 62, 63, 64, 6] hp.nt hp.df (fun t ht => hp.keep t (dstIn (by kernel_rfl) ht))
    rw [← hus 6] at hO
    clear hp hdone hus
    subst ea
    simp only [putAll, List.foldl, Act.put, List.setIfInBounds_toArray, List.set_cons_zero, List.set_cons_succ]
    exact unhide HQQ (us 51) (us 52) (us 53) (us 54) (us 55) (us 56) (us 57) (us 58) (us 59) (us 60) (us 61) (us 62) (us 63) (us 64) (us 6) V hB13 hO
end Go.Proofs.Ytjbbjgoofenkpaa
