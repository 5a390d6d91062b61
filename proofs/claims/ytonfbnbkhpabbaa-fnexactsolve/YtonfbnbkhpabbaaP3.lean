/- The program's stillOpen. -/
import Derived.Test.YtonfbnbkhpabbaaP1
import Derived.Deep.QuietTactic
import Derived.BigQuiet
namespace Go.Proofs.Ytonfbnbkhpabbaa
open Go Go.RowKit Gs
set_option linter.unusedVariables false
set_option linter.unusedSimpArgs false
set_option maxRecDepth 100000
/-- Blocks that came later don't matter. -/
theorem FM.apart {B n : Nat} {ex : Option Nat} {W0 W W' : World} {s : FS} {ms : List Int} {r : Nat} (h0 : FM B n ex W0 s) (h : FM B n ex W { s with ms := ms, rnd := r }) (hk : ∀ k, k < W0.heap.size → W'.heap[k]? = W.heap[k]?) : FM B n ex W' { s with ms := ms, rnd := r } := by
  have kk : ∀ (k : Nat) (o : Array Value) (t : TypeId), (∃ x, W0.heap[k]? = some x) → W.heap[k]? = some (.cells o t) → W'.heap[k]? = some (.cells o t) := fun k o t ⟨x, hx⟩ hc => (hk k (heap_lt hx)).trans hc
  refine ⟨h.lo, kk _ _ _ ⟨_, h0.hb⟩ h.hb, kk _ _ _ ⟨_, h0.hv⟩ h.hv, kk _ _ _ ⟨_, h0.ho⟩ h.ho, kk _ _ _ ⟨_, h0.hm⟩ h.hm, ownsRow_keep h.ht (fun g o hg hc => ?_), fun p hp he => ownsRow_keep (h.hw p hp he) (fun g o hg hc => ?_), fun i hi => ?_, h.d1, h.d2, h.d3, h.d4, fun p j hp hj => ?_, h.lv, h.lm, fun p j he hp hj => ?_, fun q hq => ⟨kk _ _ _ ⟨_, (h0.fz q hq).at_⟩ (h.fz q hq).at_, (h.fz q hq).b, (h.fz q hq).vb, (h.fz q hq).ob, (h.fz q hq).mb, (h.fz q hq).tv, (h.fz q hq).sv, (h.fz q hq).ids⟩⟩
  · obtain ⟨o', ho'⟩ := own_ty h0.ht hg
    exact kk _ _ _ ⟨_, ho'⟩ hc
  · obtain ⟨_, o', ho'⟩ := h0.d5 p g hp hg
    exact kk _ _ _ ⟨_, ho'⟩ hc
  · obtain ⟨h1, cur, h2, h3⟩ := h.hc i hi
    obtain ⟨_, c', h4, _⟩ := h0.hc i hi
    exact ⟨h1, cur, kk _ _ _ ⟨_, h4⟩ h2, h3⟩
  · obtain ⟨h1, o, h2⟩ := h.d5 p j hp hj
    obtain ⟨_, o', ho'⟩ := h0.d5 p j hp hj
    exact ⟨h1, o, kk _ _ _ ⟨_, ho'⟩ h2⟩
  · obtain ⟨_, o', ho'⟩ := h0.d5 p j hp hj
    exact kk _ _ _ ⟨_, ho'⟩ (h.hx p j he hp hj)
/-- The marks of a round. -/
structure MKm (n : Nat) (ms : List Int) (r : Nat) (acc : List Int) : Prop where
  le : ∀ x ∈ ms, x ≤ (r : Int)
  mem : ∀ l, Lit n l → (ms.getD (plN l) 0 = (r : Int) ↔ l ∈ acc)
theorem MKm.start {n : Nat} {ms : List Int} {r : Nat} (h : ∀ x ∈ ms, x ≤ (r : Int)) : MKm n ms (r + 1) [] := by
  refine ⟨fun x hx => by have := h x hx; omega, fun l hl => ⟨fun e => ?_, fun h => by cases h⟩⟩
  exfalso
  rw [List.getD_eq_getElem?_getD] at e
  cases hx : ms[plN l]? with
  | none => rw [hx] at e; simp at e; omega
  | some x =>
    rw [hx] at e
    have := h x (List.mem_of_getElem? hx)
    simp at e; omega
theorem MKm.put {n : Nat} {ms acc : List Int} {r : Nat} (h : MKm n ms r acc) (hlen : ms.length = 2 * n + 2) {l : Int} (hl : Lit n l) : MKm n (ms.set (plN l) (r : Int)) r (acc ++ [l]) := by
  refine ⟨fun x hx => ?_, fun m hm => ?_⟩
  · rcases List.mem_or_eq_of_mem_set hx with h1 | h1
    · exact h.le x h1
    · omega
  · rw [List.getD_eq_getElem?_getD, List.getElem?_set]
    by_cases e : plN l = plN m
    · have e2 := plN_inj e
      subst e2
      rw [if_pos rfl, if_pos (by rw [hlen]; exact plN_lt hl)]
      simp
    · rw [if_neg e, ← List.getD_eq_getElem?_getD, h.mem m hm]
      simp only [List.mem_append, List.mem_singleton]
      exact ⟨.inl, fun h1 => h1.elim id (fun h2 => absurd (by rw [h2]) e)⟩
theorem opens_len (P : Int → Bool) : ∀ (c acc : List Int), (opens P acc c).length ≤ acc.length + c.length
  | [], acc => by simp [opens]
  | x :: c, acc => by
    rw [opens]
    have := opens_len P c (if P x && !acc.contains x then acc ++ [x] else acc)
    split at this <;> rename_i h
    · rw [if_pos h]; simp at this ⊢; omega
    · rw [if_neg h]; simp at this ⊢; omega
def opP (vs : List Int) (l : Int) : Bool := val vs l == 0
/-- What stillOpen leaves. -/
def SO (B n : Nat) (w W : World) (s : FS) (c : List Int) (e : Ending) (w' : World) : Prop :=
  Below B w w' ∧ W.heap.size ≤ w'.heap.size ∧ ∃ ms, (∀ x ∈ ms, x ≤ ((s.rnd + 1 : Nat) : Int)) ∧ FM B n none w' { s with ms := ms, rnd := s.rnd + 1 } ∧
    ((∃ v, e = .returned (.tuple #[v, .bool true]) ∧ ∃ l ∈ c, val s.vs l = 1) ∨
     (∃ v, e = .returned (.tuple #[v, .bool false]) ∧ (∀ l ∈ c, val s.vs l ≠ 1) ∧ w'.ownsRow W.heap.size 3 1 v (opens (opP s.vs) [] c).length (iL (opens (opP s.vs) [] c))))
set_option maxHeartbeats 6400000 in
theorem iStillOpen {B n : Nat} {w W : World} {s : FS} (c : List Int) (cv : Value) (h : FM B n none W s) (hbw : Below B w W) (hB : B = w.heap.size) (hBW : B ≤ W.heap.size) (hvr : VR n s.t s.vs) (hc : Lits n c) (hlc : c.length ≤ 4194304) (hr : RS 1 RInt w 0 c cv) (hmk : ∀ x ∈ s.ms, x ≤ (s.rnd : Int)) (hrn : s.rnd ≤ 1000000) (hn : n ≤ 2048) : Calls Try.prog 42 #[.pointer (some ⟨s.b, 0, none⟩), cv] W (SO B n w W s c) := by
  obtain ⟨ca, cc, rfl⟩ := hr.slice
  have hl1 := hr.len
  unfold maxLen at hl1
  have HRD : Hid (∀ wr, Below B w wr → ∀ (j : Nat) z, c[j]? = some z → ∃ yb yo, ca = some ⟨yb, yo, none⟩ ∧ wr.cell? ⟨yb, yo + j, none⟩ = some (.int .i64 z)) := hide (by
    intro wr hb j z hz
    obtain ⟨yb, yo, e1, e2⟩ := ints hr j z hz
    subst hB
    exact ⟨yb, yo, e1, cell_later hb e2⟩)
  have q4 := h.q4
  have qf := h.frz 4
  have h1 : FM B n none (W.setCell ⟨s.b, 4, none⟩ (.int .i64 ((s.rnd : Int) + 1))) { s with ms := s.ms, rnd := s.rnd + 1 } := by
    have := h.fld (W' := W.setCell ⟨s.b, 4, none⟩ (.int .i64 ((s.rnd : Int) + 1))) s.fol (s.rnd + 1) s.brk (by rw [heap_set h.hb]; rfl) (fun k hk => Below.heap_setCell W ⟨s.b, 4, none⟩ _ k hk)
    exact this
  have hb1 : Below B w (W.setCell ⟨s.b, 4, none⟩ (.int .i64 ((s.rnd : Int) + 1))) := hbw.setCell (p := ⟨s.b, 4, none⟩) h.lo.1 _
  have hs1 : (W.setCell ⟨s.b, 4, none⟩ (.int .i64 ((s.rnd : Int) + 1))).heap.size = W.heap.size := by simp
  have H := hide h
  have H1 := hide h1
  have HB1 := hide hb1
  have HS1 := hide hs1
  have HMK := hide (MKm.start (n := n) hmk)
  have HBW := hide hBW
  have HVR := hide hvr
  have HC := hide hc
  obtain ⟨r, hrr⟩ : ∃ r : Nat, r = s.rnd + 1 := ⟨_, rfl⟩
  have hri : (s.rnd : Int) + 1 = (r : Int) := by omega
  obtain ⟨i0, hi, hz0, hz1, hz2⟩ := info_parts info3
  have HI := hide (And.intro hi (And.intro hz0 (And.intro hz1 hz2)))
  clear hi hz0 hz1 hz2
  clear h h1 hb1 hs1 hmk hbw hBW hvr hc hr hB
  rw [hri] at H1 HB1 HS1
  rw [← hrr] at HMK H1
  have HRI := hide hri
  have HRR := hide hrr
  have hr2 : r ≤ 1000001 := by omega
  clear hri hrr
  go_enter Try.func42, Try.ntmps42
  go_wp2
  rw [unhide HRI]
  go_loopw [4, 19] (fun ov i wr => ∃ (j : Nat) (ms : List Int), j ≤ c.length ∧ i = .int .i64 (j : Int) ∧ FM B n none wr { s with ms := ms, rnd := r } ∧ Below B w wr ∧ W.heap.size ≤ wr.heap.size ∧ MKm n ms r (opens (opP s.vs) [] (c.take j)) ∧ wr.ownsRow W.heap.size 3 1 ov (opens (opP s.vs) [] (c.take j)).length (iL (opens (opP s.vs) [] (c.take j))) ∧ ∀ l ∈ c.take j, val s.vs l ≠ 1) (fun ov i wr => c.length - (intOf i).toNat)
  case atStart => exact ⟨0, s.ms, Nat.zero_le _, rfl, unhide H1, unhide HB1, by rw [unhide HS1]; exact Nat.le_refl _, unhide HMK, ⟨rfl, .inl ⟨rfl, rfl⟩⟩, fun l hl => by cases hl⟩
  case round =>
    obtain ⟨j, ms, hj, rfl, hf, hb, hsz, hmk, hown, hno⟩ := hrel
    obtain ⟨oa, oc, hov⟩ := own_shape hown
    subst hov
    by_cases hjl : j < c.length
    · obtain ⟨l, hz⟩ : ∃ l, c[j]? = some l := ⟨_, List.getElem?_eq_getElem hjl⟩
      have hl : Lit n l := unhide HC l (List.mem_of_getElem? hz)
      have hlm : l ∈ c := List.mem_of_getElem? hz
      obtain ⟨yb, yo, rfl, hcell⟩ := unhide HRD wr hb j l hz
      have HVAL := hide (iValue hf (unhide HVR) hl hn)
      have h3 := (unhide HVR).three hl
      have hpl := plN_lt hl
      have HPL := hide (iPl n l wr hl hn)
      have HTK : Hid (c.take (j + 1) = c.take j ++ [l]) := hide (by rw [List.take_add_one, hz]; rfl)
      obtain ⟨z0, z1, z2⟩ := id hl
      have zl : -2048 ≤ l := by omega
      have zh : l ≤ 2048 := by omega
      obtain ⟨p, hp⟩ : ∃ p : Nat, p = plN l := ⟨_, rfl⟩
      rw [← hp] at HPL hpl
      have HP := hide hp
      clear hp
      have j1 : (j : Int) < (c.length : Int) := by omega
      have j2 : (0 : Int) ≤ (j : Int) := by omega
      have p1 : (0 : Int) ≤ (p : Int) := by omega
      have p2 : (p : Int) < ((2 * n + 2 : Nat) : Int) := by omega
      simp only at HVAL
      have hml : ms.length = 2 * n + 2 := hf.lm
      have hmc := iC_cell (W := wr) (b := s.mb) (x := ms) hf.hm (getD_some (vs := ms) (i := p) (by omega))
      have hmf := iC_frz (W := wr) (b := s.mb) (x := ms) (i := p) hf.hm
      have q5 : wr.cell? ⟨s.b, 5, none⟩ = some (.slice (some ⟨s.mb, 0, none⟩) (2 * n + 2) (2 * n + 2)) := hf.q5
      have q4' : wr.cell? ⟨s.b, 4, none⟩ = some (.int .i64 (r : Int)) := hf.q4
      have HHF := hide hf
      have HHB := hide hb
      have HHS := hide hsz
      have HHM := hide hmk
      have HHO := hide hown
      have HHN := hide hno
      have HHL := hide hl
      have HLM := hide hlm
      clear hf hb hsz hmk hown hno hl hlm hz z0 z1 z2 HRD q4 qf
      by_cases e1 : val s.vs l = 1
      · have HV1 := hide e1
        rw [e1] at HVAL
        clear e1 h3
        go_wp2_with fail
        refine (unhide HPL).mono ?_
        rintro e W1 ⟨rfl, hw⟩
        have hw' := hw.symm
        subst hw'
        go_wp2_with fail
        refine (unhide HVAL).mono ?_
        rintro e W1 ⟨rfl, hw⟩
        have hw' := hw.symm
        subst hw'
        go_wp2
        refine bodyPost_ret (v := .tuple #[.slice none 0 0, .bool true]) (by simp [results, Try.results42, go_sem]) rfl ⟨unhide HHB, unhide HHS, ms, ?_, ?_, .inl ⟨_, rfl, l, unhide HLM, unhide HV1⟩⟩
        · rw [← unhide HRR]; exact (unhide HHM).le
        · rw [← unhide HRR]; exact unhide HHF
      · by_cases e2 : val s.vs l = -1
        · rw [e2] at HVAL
          have HKP : Hid (opens (opP s.vs) [] (c.take (j + 1)) = opens (opP s.vs) [] (c.take j)) := hide (by
            rw [unhide HTK, opens_snoc, if_neg]
            unfold opP; rw [e2]; simp)
          have HV1 := hide e1
          clear e1 e2 h3
          go_wp2_with fail
          refine (unhide HPL).mono ?_
          rintro e W1 ⟨rfl, hw⟩
          have hw' := hw.symm
          subst hw'
          go_wp2_with fail
          refine (unhide HVAL).mono ?_
          rintro e W1 ⟨rfl, hw⟩
          have hw' := hw.symm
          subst hw'
          go_wp2
          go_quiet (fail)
          go_wp2
          refine ⟨⟨j + 1, ms, by omega, by go_num, (unhide HHF).keep (fun k o t hc => hc), below_drewN (unhide HHB) _, unhide HHS, ?_, ?_, ?_⟩, by simp [intOf]; omega⟩
          · rw [unhide HKP]; exact unhide HHM
          · rw [unhide HKP]; exact ownsRow_keep (unhide HHO) (fun g o _ hc => hc)
          · intro m hm
            rw [unhide HTK] at hm
            rcases List.mem_append.1 hm with h | h
            · exact unhide HHN m h
            · simp at h; subst h; exact unhide HV1
        · have e0 : val s.vs l = 0 := by omega
          rw [e0] at HVAL
          have HV1 := hide e1
          have HNO : Hid (∀ m ∈ c.take (j + 1), val s.vs m ≠ 1) := hide (by
            intro m hm
            rw [unhide HTK] at hm
            rcases List.mem_append.1 hm with h | h
            · exact unhide HHN m h
            · simp at h; subst h; exact e1)
          have hme := (unhide HHM).mem l (unhide HHL)
          rw [← unhide HP] at hme
          clear e1 e2 h3
          by_cases hin : l ∈ opens (opP s.vs) [] (c.take j)
          · have hmr := hme.2 hin
            have HKP : Hid (opens (opP s.vs) [] (c.take (j + 1)) = opens (opP s.vs) [] (c.take j)) := hide (by
              rw [unhide HTK, opens_snoc, if_neg]
              rw [List.contains_eq_mem, decide_eq_true hin]; simp)
            rw [hmr] at hmc
            clear hme hin e0 hmr
            go_wp2_with fail
            refine (unhide HPL).mono ?_
            rintro e W1 ⟨rfl, hw⟩
            have hw' := hw.symm
            subst hw'
            go_wp2_with fail
            refine (unhide HVAL).mono ?_
            rintro e W1 ⟨rfl, hw⟩
            have hw' := hw.symm
            subst hw'
            go_wp2
            go_quiet (fail)
            go_wp2
            refine ⟨⟨j + 1, ms, by omega, by go_num, (unhide HHF).keep (fun k o t hc => hc), below_drewN (unhide HHB) _, unhide HHS, ?_, ?_, unhide HNO⟩, by simp [intOf]; omega⟩
            · rw [unhide HKP]; exact unhide HHM
            · rw [unhide HKP]; exact ownsRow_keep (unhide HHO) (fun g o _ hc => hc)
          · have hmr : ms.getD p 0 ≠ (r : Int) := fun e => hin (hme.1 e)
            have HKP : Hid (opens (opP s.vs) [] (c.take (j + 1)) = opens (opP s.vs) [] (c.take j) ++ [l]) := hide (by
              rw [unhide HTK, opens_snoc, if_pos]
              rw [List.contains_eq_mem, decide_eq_false hin]; unfold opP; rw [e0]; rfl)
            clear hme hin e0
            generalize ms.getD p 0 = x at *
            have holen : (opens (opP s.vs) [] (c.take j)).length ≤ 4194304 := by
              have h1 := opens_len (opP s.vs) (c.take j) []
              have h2 := List.length_take_le j c
              simp at h1; omega
            have FIN : Hid (∀ Wd : World, Wd.heap = wr.heap → Below B w Wd → ∀ (v' : Value) (w3 : World), w3.ownsRow W.heap.size 3 1 v' ((opens (opP s.vs) [] (c.take j)).length + 1) (iL (opens (opP s.vs) [] (c.take j)) ++ [.int .i64 l]) → ((Wd.setCell ⟨s.mb, p, none⟩ (.int .i64 (r : Int))).alloc (.cells #[.int .i64 l] 3)).grownBy w3 (Value.slice oa (opens (opP s.vs) [] (c.take j)).length oc).ownBlock →
                FM B n none w3 { s with ms := ms.set p (r : Int), rnd := r } ∧ Below B w w3 ∧ W.heap.size ≤ w3.heap.size ∧ MKm n (ms.set p (r : Int)) r (opens (opP s.vs) [] (c.take (j + 1))) ∧ w3.ownsRow W.heap.size 3 1 v' (opens (opP s.vs) [] (c.take (j + 1))).length (iL (opens (opP s.vs) [] (c.take (j + 1))))) := hide (by
              intro Wd hwd hbd v' w3 hown hg
              have hf := unhide HHF
              have f1 : FM B n none Wd { s with ms := ms, rnd := r } := hf.keep (fun k o t hc => by rw [hwd]; exact hc)
              have f2 : FM B n none (Wd.setCell ⟨s.mb, p, none⟩ (.int .i64 (r : Int))) { s with ms := ms.set p (r : Int), rnd := r } := f1.met (ms.set p (r : Int)) (by simp) (iC_set f1.hm) (fun k hk => Below.heap_setCell Wd ⟨s.mb, p, none⟩ _ k hk)
              have f3 := f2.later (bal (brf _) (.cells #[.int .i64 l] 3))
              have hsd : (Wd.setCell ⟨s.mb, p, none⟩ (.int .i64 (r : Int))).heap.size = wr.heap.size := by simp [hwd]
              have hlow : ∀ q, (Value.slice oa (opens (opP s.vs) [] (c.take j)).length oc).ownBlock = some q → W.heap.size ≤ q := fun q hq => (World.ownsRow.lt (unhide HHO) q hq).1
              have hsz := unhide HHS
              have hBW := unhide HBW
              have hbs : Below B w (Wd.setCell ⟨s.mb, p, none⟩ (.int .i64 (r : Int))) := hbd.setCell (p := ⟨s.mb, p, none⟩) hf.lo.2.2.2.1 _
              have hsg := hg.size
              rw [World.size_alloc, hsd] at hsg
              refine ⟨(unhide H).apart f3 (fun k hk => ?_), ?_, by omega, ?_, ?_⟩
              · refine hg.block k (by rw [World.size_alloc, hsd]; omega) (fun e => ?_)
                have := hlow k e.symm
                omega
              · exact (hbs.alloc (by rw [hsd]; omega) _).grown hg (by rw [World.size_alloc, hsd]; omega) (fun q hq => Nat.le_trans hBW (hlow q hq))
              · rw [unhide HKP]
                have := (unhide HHM).put hml (unhide HHL)
                rw [← unhide HP] at this
                exact this
              · rw [unhide HKP, List.length_append]
                unfold iL at *
                rw [List.map_append]
                exact hown)
            have HOWN : Hid (∀ Wd : World, Wd.heap = wr.heap → ((Wd.setCell ⟨s.mb, p, none⟩ (.int .i64 (r : Int))).alloc (.cells #[.int .i64 l] 3)).ownsRow W.heap.size 3 1 (.slice oa (opens (opP s.vs) [] (c.take j)).length oc) (opens (opP s.vs) [] (c.take j)).length (iL (opens (opP s.vs) [] (c.take j)))) := hide (fun Wd hwd => by
              have hmb := heap_lt (unhide H).hm
              refine ownsRow_keep (unhide HHO) (fun g o hg hc => ?_)
              have h1 := (World.ownsRow.lt (unhide HHO) g hg).1
              refine heap_al ((Below.heap_setCell Wd ⟨s.mb, p, none⟩ _ g (show g ≠ s.mb by omega)).trans ?_)
              rw [hwd]; exact hc)
            have HLB : Hid (∀ Wd : World, Wd.heap = wr.heap → W.heap.size ≤ ((Wd.setCell ⟨s.mb, p, none⟩ (.int .i64 (r : Int))).alloc (.cells #[.int .i64 l] 3)).heap.size) := hide (fun Wd hwd => by
              rw [World.size_alloc]; simp [hwd]; have := unhide HHS; omega)
            have hx : (x == (r : Int)) = false := by simpa using hmr
            clear HHO
            generalize (opens (opP s.vs) [] (c.take j)).length = ol at *
            go_wp2_with fail
            refine (unhide HPL).mono ?_
            rintro e W1 ⟨rfl, hw⟩
            have hw' := hw.symm
            subst hw'
            go_wp2_with fail
            refine (unhide HVAL).mono ?_
            rintro e W1 ⟨rfl, hw⟩
            have hw' := hw.symm
            subst hw'
            go_wp2
            go_quiet (fail)
            go_wp2
            go_region
            all_goals
              go_wp2_with (first
                | (at_builtin; refine wpAppAt rfl _ _ 24 rfl W.heap.size 3 i0 (.int .i64 0) 1 8 Try.underlying24 (unhide HI).1 (unhide HI).2.1 (unhide HI).2.2.1 (unhide HI).2.2.2 rfl (by decide) _ _ _ rfl (unhide HOWN (wr.drewN (nq + 1)) rfl) ⟨wr.heap.size, 0, none⟩ 1 1 [.int .i64 l] rfl rfl (at_int _ _ _ (by simp)) (one_int _) (by unfold maxLen; omega) (by omega) (unhide HLB (wr.drewN (nq + 1)) rfl) ?_; intro v' w3 k1' k2' k3'; have HFN := hide (unhide FIN (wr.drewN (nq + 1)) rfl (below_drewN (unhide HHB) _) v' w3 k1' k2'); obtain ⟨a', c', hsh⟩ := own_shape k1'; subst hsh; clear k1' k2' k3')
                | go_in)
              exact ⟨⟨j + 1, ms.set p (r : Int), by omega, by go_num, (unhide HFN).1, (unhide HFN).2.1, (unhide HFN).2.2.1, (unhide HFN).2.2.2.1, (unhide HFN).2.2.2.2, unhide HNO⟩, by simp [intOf]; omega⟩
    · have hje : j = c.length := by omega
      subst hje
      rw [List.take_of_length_le (Nat.le_refl _)] at hmk hown hno
      have j1 : ¬ ((c.length : Int) < (c.length : Int)) := by omega
      have HE := hide (show SO B n w W s c (.returned (.tuple #[.slice oa (opens (opP s.vs) [] c).length oc, .bool false])) wr from ⟨hb, hsz, ms, by rw [← unhide HRR]; exact hmk.le, by rw [← unhide HRR]; exact hf, .inr ⟨_, rfl, hno, hown⟩⟩)
      clear hf hb hsz hmk hown hno HRD q4 qf
      go_wp2
      exact bodyPost_ret (v := .tuple #[.slice oa (opens (opP s.vs) [] c).length oc, .bool false]) (by simp [results, Try.results42, go_sem]) rfl (unhide HE)
end Go.Proofs.Ytonfbnbkhpabbaa
