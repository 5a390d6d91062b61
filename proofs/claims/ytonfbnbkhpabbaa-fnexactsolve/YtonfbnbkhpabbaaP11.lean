/- The program's add. -/
import Derived.Test.YtonfbnbkhpabbaaK4
namespace Go.Proofs.Ytonfbnbkhpabbaa
open Go Go.RowKit Gs
set_option linter.unusedVariables false
set_option linter.unusedSimpArgs false
set_option maxRecDepth 100000
theorem FM.name2 {B n : Nat} {W0 W : World} {s : FS} {ms : List Int} {rd : Nat} {i : Nat} {c : List Int} {k cp : Nat} (h0 : FM B n none W0 s) (h : FM B n none W { s with ms := ms, rnd := rd }) (hi : W0.heap.size ≤ i) (hBi : B ≤ i) (hk : k = c.length) (hc : ∃ cur, W.heap[i]? = some (.cells cur 3) ∧ cur.toList.take c.length = iL c) (hws : ∀ l, ∀ j ∈ s.ws l, j ∈ s.ids) : FM B n none W { s with ms := ms, rnd := rd, ids := s.ids ++ [i], cl := upC s.cl i c, ln := upN s.ln i k, cap := upN s.cap i cp } := by
  have hni : i ∉ s.ids := fun hm => by
    obtain ⟨_, cur, h2, _⟩ := h0.hc i hm
    have := heap_lt h2; omega
  have hhd : ∀ j, j ≠ i → hd (upN s.ln i k) (upN s.cap i cp) j = hd s.ln s.cap j := fun j hj => by
    unfold hd upN; rw [if_neg hj, if_neg hj]
  refine ⟨⟨h.lo.1, h.lo.2.1, h.lo.2.2.1, h.lo.2.2.2.1, fun j hj => ?_⟩, h.hb, h.hv, h.ho, h.hm, h.ht, fun p hp he => ?_, fun j hj => ?_, h.d1, fun j hj => ?_, fun j hj => ?_, h.d4, h.d5, h.lv, h.lm, (fun p j he => by cases he), fun q hq => ⟨(h.fz q hq).at_, (h.fz q hq).b, (h.fz q hq).vb, (h.fz q hq).ob, (h.fz q hq).mb, (h.fz q hq).tv, (h.fz q hq).sv, fun hm => ?_⟩⟩
  · rcases List.mem_append.1 hj with h1 | h1
    · exact h.lo.2.2.2.2 j h1
    · simp at h1; subst h1; exact hBi
  · show World.ownsRow W B 24 1 (s.sv p) (s.ws (ltP p)).length ((s.ws (ltP p)).map (hd (upN s.ln i k) (upN s.cap i cp)))
    have e : (s.ws (ltP p)).map (hd (upN s.ln i k) (upN s.cap i cp)) = (s.ws (ltP p)).map (hd s.ln s.cap) := List.map_congr_left (fun j hj => hhd j (fun e => hni (e ▸ hws _ j hj)))
    rw [e]
    exact h.hw p hp he
  · show upN s.ln i k j = (upC s.cl i c j).length ∧ ∃ cur, W.heap[j]? = some (.cells cur 3) ∧ cur.toList.take (upC s.cl i c j).length = iL (upC s.cl i c j)
    rcases List.mem_append.1 hj with h1 | h1
    · have e : j ≠ i := fun e => hni (e ▸ h1)
      rw [upC_other e]
      unfold upN
      rw [if_neg e]
      exact h.hc j h1
    · simp at h1; subst h1
      rw [upC_same]
      unfold upN
      rw [if_pos rfl]
      exact ⟨hk, hc⟩
  · obtain ⟨a1, a2, a3⟩ := h.d2 j hj
    refine ⟨a1, a2, fun hm => ?_⟩
    rcases List.mem_append.1 hm with h1 | h1
    · exact a3 h1
    · simp at h1; subst h1
      obtain ⟨o, h2⟩ := own_ty h0.ht hj
      have := heap_lt h2; omega
  · rcases List.mem_append.1 hj with h1 | h1
    · exact h.d3 j h1
    · simp at h1; subst h1
      have h2 := heap_lt h0.hv
      have h3 := heap_lt h0.hm
      exact ⟨(show j ≠ s.vb by omega), (show j ≠ s.mb by omega)⟩
  · rcases List.mem_append.1 hm with h1 | h1
    · exact (h.fz q hq).ids h1
    · have e : q.1 = i := by simpa using h1
      have := heap_lt (h0.fz q hq).at_; omega
def ADQ (B n : Nat) (w : World) (Cl : List (List Int)) (s : FS) (e : Ending) (w' : World) : Prop := e = .returned (.tuple #[]) ∧ ∃ s', s'.b = s.b ∧ AD B n w Cl s' w'
theorem ADQ.of {B n : Nat} {w w' : World} {Cl : List (List Int)} {s s' : FS} (h : AD B n w Cl s' w') (hb : s'.b = s.b) : ADQ B n w Cl s (.returned (.tuple #[])) w' := ⟨rfl, s', hb, h⟩
set_option maxHeartbeats 6400000 in
theorem iAdd {B n : Nat} {w W : World} {Cl : List (List Int)} {s : FS} (h : AD B n w Cl s W) (hB : B = w.heap.size) (c : List Int) (cv : Value) (hc : Lits n c) (hlc : c.length ≤ 4194304) (hr : RS 1 RInt w 0 c cv) (hlen : Cl.length < 1000000) (hn : n ≤ 2048) : Calls Try.prog 32 #[.pointer (some ⟨s.b, 0, none⟩), cv] W (ADQ B n w (Cl ++ [c]) s) := by
  have HSO := hide (iStillOpen c cv h.fm h.bl hB h.bw h.ls.vr hc hlc hr h.mr (by have := h.rn; omega) hn)
  obtain ⟨ca, cc, rfl⟩ := hr.slice
  have H := hide h
  have HC := hide hc
  clear h hr hc hB
  go_enter Try.func32, Try.ntmps32
  go_wp2_with fail
  refine (unhide HSO).mono ?_
  rintro e W1 ⟨hb1, hs1, ms, hm1, hf1, hor⟩
  clear HSO
  rcases hor with ⟨v, rfl, l, hl, hv⟩ | ⟨v, rfl, hno, hown⟩
  · have hlt : l ∈ s.t := (unhide H).ls.vr.one (unhide HC l hl) hv
    have HE : Hid (ADQ B n w (Cl ++ [c]) s (.returned (.tuple #[])) W1) := hide (.of ((unhide H).isdone hb1 hs1 hm1 hf1 (.inr ⟨l, hl, hlt⟩)) rfl)
    clear hb1 hs1 hm1 hf1 hl hv hlt
    go_wp2
    exact bodyPost_ret (v := .tuple #[]) (by simp [results, Try.results32, go_sem]) rfl (unhide HE)
  · have q6 : W1.cell? ⟨s.b, 6, none⟩ = some (.bool s.brk) := hf1.q6
    have f6 : W1.frozen? ⟨s.b, 6, none⟩ = false := hf1.frz 6
    obtain ⟨va, vc, hsh⟩ := own_shape hown
    subst hsh
    cases hbk : s.brk with
    | true =>
      rw [hbk] at q6
      have HE : Hid (ADQ B n w (Cl ++ [c]) s (.returned (.tuple #[])) W1) := hide (.of ((unhide H).isdone hb1 hs1 hm1 hf1 (.inl hbk)) rfl)
      clear hb1 hs1 hm1 hf1 hno hown
      go_wp2
      exact bodyPost_ret (v := .tuple #[]) (by simp [results, Try.results32, go_sem]) rfl (unhide HE)
    | false =>
      rw [hbk] at q6
      have holen := opens_len (opP s.vs) c []
      simp at holen
      obtain ⟨os, hos⟩ : ∃ os, os = opens (opP s.vs) [] c := ⟨_, rfl⟩
      rw [← hos] at hown holen ⊢
      match os, hos with
      | [], hos =>
        have HE : Hid (ADQ B n w (Cl ++ [c]) s (.returned (.tuple #[])) (W1.setCell ⟨s.b, 6, none⟩ (.bool true))) := hide (.of ((unhide H).empty hbk (unhide HC) hb1 hs1 hm1 hf1 hno hos.symm) rfl)
        clear hb1 hs1 hm1 hf1 hno hown hos
        go_wp2
        exact bodyPost_end (v := .tuple #[]) (by simp [results, Try.results32, go_sem]) rfl (unhide HE)
      | [l], hos =>
        obtain ⟨i, rfl, c0⟩ : ∃ i, va = some ⟨i, 0, none⟩ ∧ W1.cell? ⟨i, 0, none⟩ = some (.int .i64 l) := by
          rcases id hown.2 with ⟨hv, hn0⟩ | ⟨i, cap, cur, hv, _⟩
          · simp at hn0
          · injection hv with e1 e2 e3
            subst e1
            refine ⟨i, rfl, ?_⟩
            have := World.ownsRow.cells hown (g := i) rfl 0 (.int .i64 l) rfl
            rw [Addr.add_lit] at this
            simpa using this
        have hop := (unhide H).ls.vr.isOpen (unhide HC) (l := l) (by rw [← hos]; simp)
        have hbw := (unhide H).bw
        have HA := hide (iAssume hf1 hb1 (by omega) (unhide H).ls.vr (unhide H).ls.tr (unhide HC l hop.1) hn)
        have HOP := hide hop
        have HNO := hide hno
        have HOS := hide hos
        have HM1 := hide hm1
        clear hb1 hf1 hno hown hos hop hm1
        go_wp2_with fail
        refine (unhide HA).mono ?_
        rintro e W2 (⟨h1, _⟩ | ⟨h1, _⟩ | ⟨ho, rfl, hb2, hs2, v', hf2⟩)
        · exact absurd h1 (unhide HOP).2.1
        · exact absurd h1 (unhide HOP).2.2
        · have hfo := (unhide H).one (ms := ms) hbk (unhide HC) (unhide HNO) (unhide HOS).symm hb2 (by omega) hf2
          have HF := hide (iFollow hfo hn)
          clear HA hf2 hb2 hfo ho
          go_wp2_with fail
          refine (unhide HF).mono ?_
          rintro e W3 ⟨r, hfo, hor⟩
          have k6 := hfo.fm.q6
          have kf := hfo.fm.frz 6
          rw [hfo.fr.b] at k6 kf
          have hrb : r.b = s.b := hfo.fr.b
          rcases hor with ⟨rfl, hfe⟩ | ⟨rfl, hcon⟩
          · have HE : Hid (ADQ B n w (Cl ++ [c]) s (.returned (.tuple #[])) (W3.setCell ⟨s.b, 6, none⟩ (.bool false))) := hide (.of ((unhide H).follow (c := c) (s2 := { s with ms := ms, rnd := s.rnd + 1, vs := put s.vs l, t := s.t ++ [l], tv := v' }) (unhide HM1) rfl rfl rfl hfo true (.inl ⟨rfl, hfe⟩)) hrb)
            clear hfo hfe HF
            simp only [hbk]
            go_wp2
            exact bodyPost_end (v := .tuple #[]) (by simp [results, Try.results32, go_sem]) rfl (unhide HE)
          · have HE : Hid (ADQ B n w (Cl ++ [c]) s (.returned (.tuple #[])) (W3.setCell ⟨s.b, 6, none⟩ (.bool true))) := hide (.of ((unhide H).follow (c := c) (s2 := { s with ms := ms, rnd := s.rnd + 1, vs := put s.vs l, t := s.t ++ [l], tv := v' }) (unhide HM1) rfl rfl rfl hfo false (.inr ⟨rfl, hcon trivial⟩)) hrb)
            clear hfo hcon HF
            go_wp2
            exact bodyPost_end (v := .tuple #[]) (by simp [results, Try.results32, go_sem]) rfl (unhide HE)
      | x :: y :: rest, hos =>
        obtain ⟨i, rfl, hWi, cur, hcu, htk⟩ : ∃ i, va = some ⟨i, 0, none⟩ ∧ W.heap.size ≤ i ∧ ∃ cur, W1.heap[i]? = some (.cells cur 3) ∧ cur.toList.take (x :: y :: rest).length = iL (x :: y :: rest) := by
          rcases id hown.2 with ⟨hv, hn0⟩ | ⟨i, cap, cur, hv, hBi, hcu, _, _, _, htk⟩
          · simp at hn0
          · injection hv with e1 e2 e3
            subst e1
            rw [Nat.mul_one] at htk
            exact ⟨i, rfl, hBi, cur, hcu, htk⟩
        have hbw := (unhide H).bw
        have hni : i ∉ s.ids := fun hm => by
          obtain ⟨_, cu, h2, _⟩ := (unhide H).fm.hc i hm
          have := heap_lt h2; omega
        have f2 := (unhide H).fm.name2 (cp := vc) hf1 hWi (by omega) rfl ⟨cur, hcu, htk⟩ (fun l j hj => ((unhide H).ls.wt.dn l j hj).1)
        have hnd := (opens_spec (opP s.vs) c [] List.nodup_nil).1
        rw [← hos] at hnd
        have hxy : x ≠ y := fun e => by
          subst e
          exact (List.nodup_cons.1 hnd).1 List.mem_cons_self
        have hox := (unhide H).ls.vr.isOpen (unhide HC) (l := x) (by rw [← hos]; simp)
        have hoy := (unhide H).ls.vr.isOpen (unhide HC) (l := y) (by rw [← hos]; simp)
        have hhd : hd (upN s.ln i (x :: y :: rest).length) (upN s.cap i vc) i = .slice (some ⟨i, 0, none⟩) (x :: y :: rest).length vc := by unfold hd upN; simp
        have hW1 := iWatch f2 hb1 (by omega) (unhide HC x hox.1) (by simp) i ((unhide H).ls.row x) hn
        simp only [hhd] at hW1
        have c0 : W1.cell? ⟨i, 0, none⟩ = some (.int .i64 x) := f2.lit (i := i) (k := 0) (by simp) (by show (upC s.cl i (x :: y :: rest) i)[0]? = some x; rw [upC_same]; rfl)
        have hls := (unhide H).two hbk (unhide HC) hno (by rw [← hos]; simp) hlen hni
        rw [← hos] at hls
        have HLS := hide hls
        have HW1 := hide hW1
        have HM1 := hide hm1
        have HYL := hide (unhide HC y hoy.1)
        have HXY := hide hxy
        have HHD := hide hhd
        obtain ⟨ol, hol⟩ : ∃ ol, ol = (x :: y :: rest).length := ⟨_, rfl⟩
        have ol2 : 2 ≤ ol := by rw [hol]; simp
        have o1 : (0 : Int) < (ol : Int) := by omega
        have o2 : (1 : Int) < (ol : Int) := by omega
        have o3 : ((ol : Int) == 0) = false := by simp; omega
        have o4 : ((ol : Int) == 1) = false := by simp; omega
        have o5 : ol ≤ 4194304 := by rw [hol]; omega
        rw [← hol] at HW1 HHD ⊢
        have HOL := hide hol
        clear hol hW1 hls hm1 hhd hxy hnd f2 hf1 hb1 hno hown hos hcu htk hox hoy holen
        go_wp2_with fail
        refine (unhide HW1).mono ?_
        rintro e W2 ⟨rfl, hb2, hs2, v', hf3⟩
        have c1 : W2.cell? ⟨i, 1, none⟩ = some (.int .i64 y) := hf3.lit (i := i) (k := 1) (by simp) (by show (upC s.cl i (x :: y :: rest) i)[1]? = some y; rw [upC_same]; rfl)
        have hWy := iWatch hf3 hb2 (by omega) (unhide HYL) (by simp) i (by
          show (upW s.ws x (s.ws x ++ [i]) y).length ≤ 1048576
          rw [upW_other (Ne.symm (unhide HXY))]; exact (unhide H).ls.row y) hn
        simp only [unhide HHD] at hWy
        have HWY := hide hWy
        clear hWy hf3 hb2 HW1
        go_wp2_with fail
        refine (unhide HWY).mono ?_
        rintro e W3 ⟨rfl, hb3, hs3, v'', hf4⟩
        have HE : Hid (ADQ B n w (Cl ++ [c]) s (.returned (.tuple #[])) W3) := hide (by
          refine .of (s' := _) ⟨hf4, hb3, by omega, ?_, fun o => ?_, (unhide H).fl, (unhide H).fe, unhide HM1, ?_, ?_⟩ rfl
          · show LS (s.brk = false) n (Cl ++ [c]) [] s.t [] s.t s.t s.vs (s.ids ++ [i]) (upC s.cl i (x :: y :: rest)) (upW (upW s.ws x (s.ws x ++ [i])) y (upW s.ws x (s.ws x ++ [i]) y ++ [i]))
            rw [upW_other (l := x) (m := y) (Ne.symm (unhide HXY))]
            exact unhide HLS
          · have o' : s.brk = true := o
            rw [hbk] at o'; cases o'
          · have := (unhide H).rn
            show s.rnd + 1 ≤ (Cl ++ [c]).length
            simp; omega
          · have := (unhide H).il
            show (s.ids ++ [i]).length ≤ (Cl ++ [c]).length
            simp; omega)
        clear hf4 hb3 HWY
        go_wp2
        exact bodyPost_end (v := .tuple #[]) (by simp [results, Try.results32, go_sem]) rfl (unhide HE)
end Go.Proofs.Ytonfbnbkhpabbaa
