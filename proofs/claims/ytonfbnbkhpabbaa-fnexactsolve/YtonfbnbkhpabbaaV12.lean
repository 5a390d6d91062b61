/- The slice behind the first value; rows of a trace are short; the search begins. -/
import Derived.Test.YtonfbnbkhpabbaaV11
namespace Go.Proofs.Ytonfbnbkhpabbaa
open Go Go.RowKit Gs
set_option linter.unusedVariables false
set_option linter.unusedSimpArgs false
set_option maxRecDepth 100000
theorem Vs.rows {n most N : Nat} {Cl : List (List Int)} {b : Bool} {D : List Int} {k : Nat} {T : List (List Int)} {R : SRes} (h : Vs n most Cl b D k T R) : ∀ {T' : List (List Int)} {k' : Nat}, R = .unsat T' k' → k ≤ most → (∀ c ∈ T, c.length ≤ N) → D.length + (most - k) ≤ N → (∀ c ∈ T', c.length ≤ N) := by
  have ng : ∀ (D : List Int), (negs D).length = D.length := fun D => by unfold negs; simp
  induction h with
  | over e => intro T' k' hR; cases hR
  | sat _ _ _ _ => intro T' k' hR; cases hR
  | down e _ _ _ ih => intro T' k' hR hk hT hD; exact ih hR (by omega) hT (by rw [List.length_append]; simp; omega)
  | fail e _ _ ih =>
    intro T' k' hR hk hT hD
    refine ih hR (by omega) (fun c hc => ?_) (by omega)
    rcases List.mem_append.1 hc with h1 | h1
    · exact hT c h1
    · simp at h1; subst h1; rw [ng]; omega
  | done e => intro T' k' hR hk hT hD; cases hR; exact hT
  | turn e _ _ ih =>
    intro T' k' hR hk hT hD
    rw [e, List.length_append] at hD
    exact ih hR hk hT (by rw [List.length_append]; simp at hD ⊢; omega)
  | up e _ _ ih =>
    intro T' k' hR hk hT hD
    rw [e, List.length_append] at hD
    simp at hD
    refine ih hR hk (fun c hc => ?_) (by omega)
    rcases List.mem_append.1 hc with h1 | h1
    · exact hT c h1
    · simp at h1; subst h1; rw [ng]; omega
theorem sl1 (vb n : Nat) (hn : n ≤ 2048) : ∃ (sa : Option Addr) (sc : Nat), n ≤ sc ∧ (1 ≤ n → sa = some ⟨vb, 1, none⟩) ∧ ∀ V : World, (Instr.slice 24 (.slice (some ⟨vb, 0, none⟩) (n + 1) (n + 1)) (some (.int .i64 1)) none none).run Try.prog V = .ok (.slice sa n sc) V := by
  rcases Nat.eq_zero_or_pos n with rfl | hp
  · refine ⟨some ⟨vb, 0, none⟩, 0, Nat.le_refl _, (fun h => absurd h (by decide)), fun V => ?_⟩
    go_simp
  · have e1 : (1 : Int) ≤ ((n + 1 : Nat) : Int) := by omega
    have e2 : n + 1 - 1 = n := by omega
    refine ⟨some ⟨vb, 1, none⟩, n, Nat.le_refl _, fun _ => rfl, fun V => ?_⟩
    go_simp
    rw [if_pos (by omega), if_neg (by omega)]
/-- The search begins. -/
theorem AD.search {B n most : Nat} {w W : World} {Cl : List (List Int)} {s : FS} (h : AD B n w Cl s W) : IV B n most w Cl s.t W.heap.size s [] [] 0 (W.alloc (.cells (SVC s.b (.slice none 0 0) (.slice none 0 0) 0) 46)) := by
  have hb : Below W.heap.size W (W.alloc (.cells (SVC s.b (.slice none 0 0) (.slice none 0 0) 0) 46)) := bal (brf W) _
  have hfm := h.fm.later hb
  have hbw := h.bw
  refine ⟨⟨B, .slice none 0 0, .slice none 0 0, [], ⟨h.bw, heap_new _ _, ⟨rfl, .inl ⟨rfl, rfl⟩⟩, ⟨rfl, .inl ⟨rfl, rfl⟩⟩, Nat.le_refl _, by simp; omega, Ap.new h.fm (Nat.le_refl _), (fun g hg => by cases hg), (fun g hg => by cases hg), (fun u hu => by cases hu)⟩⟩, ⟨hfm, h.bl.trans (hb.mono h.bw), Nat.le_refl _, by simp; omega, FR2.refl _, h.fl, ?_⟩, SKd.nil _ _ _ _, fun e => ⟨rfl, h.br e⟩, (fun l hl => by cases hl), Nat.le_refl _, fun R hR => hR⟩
  have hls := h.ls
  cases e : s.brk with
  | true =>
    exact ⟨hls.tr, hls.vr, hls.wt, (fun o => by cases o), (fun o => by cases o), (fun o => by cases o), (fun o => by cases o), hls.h0, fun l hl => List.mem_of_mem_take hl, hls.hb, hls.nd, hls.bd⟩
  | false =>
    rw [h.fe e, List.take_length]
    rw [e] at hls
    exact hls
end Go.Proofs.Ytonfbnbkhpabbaa
namespace Go.Proofs.Ytonfbnbkhpabbaa
open Go Go.RowKit Gs
set_option linter.unusedVariables false
set_option linter.unusedSimpArgs false
set_option maxRecDepth 100000
/-- What the program answers, in memory of its own. -/
def PS (B : Nat) (vars : Int) (Cl : List (List Int)) (work : Int) (e : Ending) (W : World) : Prop := ∃ kd mo T wk cd mv tv vals E, e = .returned (.tuple #[.agg #[.int .i64 kd, mv, tv, .int .i64 wk], .int .i64 cd]) ∧ SolR vars Cl work kd mo T wk cd ∧ IR B W mv mo ∧ W.ownsRow B 24 1 tv T.length vals ∧ RI W B E T vals ∧ E ≤ W.heap.size ∧ mo.length ≤ 2048 ∧ T.length ≤ 4001 ∧ (∀ c ∈ T, c.length ≤ 4001) ∧ (mo = [] ∨ T = [])
theorem PS.zero {B : Nat} {vars : Int} {Cl : List (List Int)} {work cd : Int} {W : World} (hB : B ≤ W.heap.size) (h : SolR vars Cl work 0 [] [] 0 cd) : PS B vars Cl work (.returned (.tuple #[.agg #[.int .i64 0, .slice none 0 0, .slice none 0 0, .int .i64 0], .int .i64 cd])) W :=
  ⟨0, [], [], 0, cd, _, _, [], B, rfl, h, ⟨rfl, .inl ⟨rfl, rfl⟩⟩, ⟨rfl, .inl ⟨rfl, rfl⟩⟩, Nat.le_refl _, hB, by simp, by simp, (fun c hc => by cases hc), .inl rfl⟩
theorem RI.drew {W : World} : ∀ {B E : Nat} (xs : List (List Int)) (us : List Value), RI W B E xs us → RI W.drew B E xs us := fun xs us h => RI.kept (W := W) (W' := W.drew) xs us (fun _ _ _ _ _ hc => hc) h
theorem PS.drew {B : Nat} {vars : Int} {Cl : List (List Int)} {work : Int} {e : Ending} {W : World} (h : PS B vars Cl work e W) : PS B vars Cl work e W.drew := by
  obtain ⟨kd, mo, T, wk, cd, mv, tv, vals, E, h1, h2, h3, h4, h5, h6, h7, h8, h9, h10⟩ := h
  exact ⟨kd, mo, T, wk, cd, mv, tv, vals, E, h1, h2, h3.keep (fun _ _ hc => hc), ownsRow_keep h4 (fun _ _ _ hc => hc), h5.drew, h6, h7, h8, h9, h10⟩
theorem own_low {W : World} {B B' e k n : Nat} {v : Value} {xs : List Value} (h : W.ownsRow B e k v n xs) (hb : B' ≤ B) : W.ownsRow B' e k v n xs := by
  obtain ⟨h1, h2 | ⟨g, cap, cur, hv, hg, rest⟩⟩ := h
  · exact ⟨h1, .inl h2⟩
  · exact ⟨h1, .inr ⟨g, cap, cur, hv, Nat.le_trans hb hg, rest⟩⟩
set_option maxHeartbeats 16000000 in
theorem iSolve (vars work : Int) (Cl : List (List Int)) (cv : Value) (w : World) (hr : RS 1 RIntS w 0 Cl cv) :
    Calls Try.prog 7 #[.int .i64 vars, cv, .int .i64 work] w fun e w' => PS w.heap.size vars Cl work e w' ∧ Below w.heap.size w w' := by
  have HOK := hide (iOK vars Cl cv (w.alloc (.cells #[.int .i64 0, .slice none 0 0, .slice none 0 0, .int .i64 0] 26)) (hr.later RIntS.keeps (bal (brf w) _)))
  obtain ⟨ca, cc, hcv⟩ := hr.slice
  have HR := hide hr
  subst hcv
  clear hr
  have HAL : Hid (∀ W1, Below (w.alloc (.cells #[.int .i64 0, .slice none 0 0, .slice none 0 0, .int .i64 0] 26)).heap.size (w.alloc (.cells #[.int .i64 0, .slice none 0 0, .slice none 0 0, .int .i64 0] 26)) W1 → Below w.heap.size w W1 ∧ W1.heap[w.heap.size]? = some (.cells #[.int .i64 0, .slice none 0 0, .slice none 0 0, .int .i64 0] 26)) := hide (fun W1 h => ⟨btr (bal (brf w) _) h, (h.block w.heap.size (by simp)).trans (heap_new _ _)⟩)
  have HZ : Hid (∀ (W1 : World) (cd : Int), Below w.heap.size w W1 → SolR vars Cl work 0 [] [] 0 cd → PS w.heap.size vars Cl work (.returned (.tuple #[.agg #[.int .i64 0, .slice none 0 0, .slice none 0 0, .int .i64 0], .int .i64 cd])) (put4 W1 w.heap.size (.int .i64 0) (.slice none 0 0) (.slice none 0 0) (.int .i64 0))) := hide (fun W1 cd h1 h2 => PS.zero (by have := h1.size; unfold put4; simpa using this) h2)
  cases hk : okC vars 64 Cl with
  | false =>
    have HS := hide (SolR.bad (work := work) hk)
    rw [hk] at HOK
    clear hk
    go_enter Try.func7, Try.ntmps7
    go_wp2_with fail
    refine (unhide HOK).mono ?_
    rintro e W1 ⟨rfl, hb1⟩
    obtain ⟨hb, hres⟩ := unhide HAL W1 hb1
    have z0 := resCell hres 0 rfl
    have z1 := resCell hres 1 rfl
    have z2 := resCell hres 2 rfl
    have z3 := resCell hres 3 rfl
    have zf := fun i => resFrz hres i
    have HE := hide (unhide HZ W1 1 hb (unhide HS))
    clear hb1
    go_wp2
    have hp := put4_heap hres (.int .i64 0) (.slice none 0 0) (.slice none 0 0) (.int .i64 0)
    have r0 := resCell hp 0 rfl
    have r1 := resCell hp 1 rfl
    have r2 := resCell hp 2 rfl
    have r3 := resCell hp 3 rfl
    unfold put4 at r0 r1 r2 r3
    refine bodyPost_ret (v := .tuple #[.agg #[.int .i64 0, (.slice none 0 0), (.slice none 0 0), .int .i64 0], .int .i64 1]) ?_ rfl ⟨unhide HE, put4_below hb (Nat.le_refl _) _ _ _ _⟩
    simp [results, Try.results7, go_sem, r0, r1, r2, r3]
  | true =>
    rw [hk] at HOK
    by_cases h1 : work < 1
    · have HS := hide (SolR.rng (work := work) hk (.inl h1))
      clear hk
      go_enter Try.func7, Try.ntmps7
      go_wp2_with fail
      refine (unhide HOK).mono ?_
      rintro e W1 ⟨rfl, hb1⟩
      obtain ⟨hb, hres⟩ := unhide HAL W1 hb1
      have z0 := resCell hres 0 rfl
      have z1 := resCell hres 1 rfl
      have z2 := resCell hres 2 rfl
      have z3 := resCell hres 3 rfl
      have zf := fun i => resFrz hres i
      have HE := hide (unhide HZ W1 11 hb (unhide HS))
      clear hb1
      go_wp2
      have hp := put4_heap hres (.int .i64 0) (.slice none 0 0) (.slice none 0 0) (.int .i64 0)
      have r0 := resCell hp 0 rfl
      have r1 := resCell hp 1 rfl
      have r2 := resCell hp 2 rfl
      have r3 := resCell hp 3 rfl
      unfold put4 at r0 r1 r2 r3
      refine bodyPost_ret (v := .tuple #[.agg #[.int .i64 0, (.slice none 0 0), (.slice none 0 0), .int .i64 0], .int .i64 11]) ?_ rfl ⟨unhide HE, put4_below hb (Nat.le_refl _) _ _ _ _⟩
      simp [results, Try.results7, go_sem, r0, r1, r2, r3]
    · by_cases h2 : 4000 < work
      · have HS := hide (SolR.rng (work := work) hk (.inr h2))
        clear hk
        go_enter Try.func7, Try.ntmps7
        go_wp2_with fail
        refine (unhide HOK).mono ?_
        rintro e W1 ⟨rfl, hb1⟩
        obtain ⟨hb, hres⟩ := unhide HAL W1 hb1
        have z0 := resCell hres 0 rfl
        have z1 := resCell hres 1 rfl
        have z2 := resCell hres 2 rfl
        have z3 := resCell hres 3 rfl
        have zf := fun i => resFrz hres i
        have HE := hide (unhide HZ W1 11 hb (unhide HS))
        clear hb1
        go_wp2
        have hp := put4_heap hres (.int .i64 0) (.slice none 0 0) (.slice none 0 0) (.int .i64 0)
        have r0 := resCell hp 0 rfl
        have r1 := resCell hp 1 rfl
        have r2 := resCell hp 2 rfl
        have r3 := resCell hp 3 rfl
        unfold put4 at r0 r1 r2 r3
        refine bodyPost_ret (v := .tuple #[.agg #[.int .i64 0, (.slice none 0 0), (.slice none 0 0), .int .i64 0], .int .i64 11]) ?_ rfl ⟨unhide HE, put4_below hb (Nat.le_refl _) _ _ _ _⟩
        simp [results, Try.results7, go_sem, r0, r1, r2, r3]
      · obtain ⟨hv0, hv1, hcl⟩ := okC_vars hk
        obtain ⟨n, hn⟩ : ∃ n : Nat, vars = (n : Int) := ⟨vars.toNat, by omega⟩
        obtain ⟨m, hm⟩ : ∃ m : Nat, work = (m : Int) := ⟨work.toNat, by omega⟩
        have hn2 : n ≤ 2048 := by omega
        have hm1 : 1 ≤ m := by omega
        have hm2 : m ≤ 4000 := by omega
        have HLC := hide (lits_of hk hn)
        have HLL : Hid (∀ c ∈ Cl, c.length ≤ 4194304) := hide (fun c hc => by
          unfold okC at hk
          simp only [Bool.and_eq_true] at hk
          have h2 := (List.all_eq_true.1 hk.2) c hc
          unfold clB at h2
          simp at h2
          omega)
        subst hn hm
        have HK := hide hk
        clear hk hv0 hv1 h1 h2
        go_enter Try.func7, Try.ntmps7
        go_wp2_with fail
        refine (unhide HOK).mono ?_
        rintro e W1 ⟨rfl, hb1⟩
        obtain ⟨hb, hres⟩ := unhide HAL W1 hb1
        have z0 := resCell hres 0 rfl
        have z1 := resCell hres 1 rfl
        have z2 := resCell hres 2 rfl
        have z3 := resCell hres 3 rfl
        have zf := fun i => resFrz hres i
        have HNEW := hide (iNew n W1 Cl _ ((unhide HR).later RIntS.keeps hb) (unhide HLC) (unhide HLL) hcl hn2)
        have HB1 := hide hb
        have HB1s := hide hb.size
        have HRS := hide hres
        clear hb1 hb hres z0 z1 z2 z3 zf
        go_wp2_with fail
        refine (unhide HNEW).mono ?_
        rintro e W2 ⟨s, rfl, had⟩
        have HSE := hide (iSearch (had.search (most := m)) rfl (unhide HLC) hn2 hm2)
        have HBK : Hid (∀ W3, Below W1.heap.size W1 W3 → Below w.heap.size w W3 ∧ W3.heap[w.heap.size]? = some (.cells #[.int .i64 0, .slice none 0 0, .slice none 0 0, .int .i64 0] 26)) := hide (fun W3 h => ⟨btr (unhide HB1) h, (h.block _ (heap_lt (unhide HRS))).trans (unhide HRS)⟩)
        unfold SVC at HSE
        clear had HNEW
        go_wp2_with fail
        refine (unhide HSE).mono ?_
        rintro e W3 (⟨rfl, hB3, hvs⟩ | ⟨rfl, hB3, hz3, s3, k3, E3, dv3, tv3, vals3, ds3, T3, hsv, hfm, hk3, hvr, hvs⟩ | ⟨rfl, hB3, hz3, s3, k3, E3, dv3, tv3, vals3, ds3, T3, hsv, hk3, hlT, hvs⟩)
        · obtain ⟨hb, hres⟩ := unhide HBK W3 hB3
          have z0 := resCell hres 0 rfl
          have z1 := resCell hres 1 rfl
          have z2 := resCell hres 2 rfl
          have z3 := resCell hres 3 rfl
          have zf := fun i => resFrz hres i
          have HE := hide (unhide HZ W3 15 hb (SolR.over (unhide HK) rfl rfl hm1 hm2 hvs))
          clear hB3 hvs HSE
          go_wp2
          have hp := put4_heap hres (.int .i64 0) (.slice none 0 0) (.slice none 0 0) (.int .i64 0)
          have r0 := resCell hp 0 rfl
          have r1 := resCell hp 1 rfl
          have r2 := resCell hp 2 rfl
          have r3 := resCell hp 3 rfl
          unfold put4 at r0 r1 r2 r3
          refine bodyPost_ret (v := .tuple #[.agg #[.int .i64 0, (.slice none 0 0), (.slice none 0 0), .int .i64 0], .int .i64 15]) ?_ rfl ⟨unhide HE, put4_below hb (Nat.le_refl _) _ _ _ _⟩
          simp [results, Try.results7, go_sem, r0, r1, r2, r3]
        · obtain ⟨hb, hres⟩ := unhide HBK W3 hB3
          obtain ⟨sa, sc, hsc, hsa, hsl⟩ := sl1 s3.vb n hn2
          have hlv := hfm.lv
          have rd : ∀ V, Below W3.heap.size W3 V → RS 1 RInt V 0 (s3.vs.drop 1) (.slice sa n sc) := fun V hV => by
            refine RS.later RInt.keeps ?_ hV
            refine ⟨sa, sc, ?_, by rw [List.length_drop]; omega, by rw [List.length_drop]; unfold maxLen; omega, fun hne => ?_⟩
            · rw [List.length_drop, hlv]; rfl
            · have hn1 : 1 ≤ n := by
                rcases Nat.eq_zero_or_pos n with e | e
                · exact absurd (List.length_eq_zero_iff.1 (by rw [List.length_drop]; omega)) hne
                · exact e
              refine ⟨s3.vb, 1, hsa hn1, Nat.zero_le _, fun i x hx => ⟨[.int .i64 x], rfl, fun j y hj => ?_, rfl⟩⟩
              have hj0 : j = 0 := by
                cases j with
                | zero => rfl
                | succ j => simp at hj
              subst hj0
              simp at hj
              subst hj
              rw [List.getElem?_drop] at hx
              have := iC_cell hfm.hv hx
              simpa using this
          have hbnd : ∀ x ∈ s3.vs.drop 1, -1 ≤ x ∧ x ≤ 1 := fun x hx => by
            obtain ⟨i, hi⟩ := List.mem_iff_getElem?.1 hx
            rw [List.getElem?_drop] at hi
            have hil := (List.getElem?_eq_some_iff.1 hi).1
            have h3 := hvr.three (l := ((1 + i : Nat) : Int)) ⟨by omega, by omega, by omega⟩
            rw [val_natP, List.getD_eq_getElem?_getD, hi] at h3
            have h4 : x = 1 ∨ x = 0 ∨ x = -1 := h3
            omega
          have HCALL : Hid (∀ V, Below W3.heap.size W3 V → Calls Try.prog 21 #[.slice sa n sc, .func (.func 20) #[] #[]] V fun e w' => ∃ x, e = .returned x ∧ IR W3.heap.size w' x (mdP s3.vs) ∧ Below V.heap.size V w') := hide (fun V hV => (iList (s3.vs.drop 1) _ V (by rw [List.length_drop]; omega) hbnd (rd V hV)).mono (fun e w' ⟨⟨x, h1, h2⟩, h3⟩ => ⟨x, h1, h2.low hV.size, h3⟩))
          have HC0 := hide hsv.c0
          have HCV := hide hfm.q0
          have HC3 := hide hsv.c3
          have HFIN : Hid (∀ V V1 mv, Below W3.heap.size W3 V1 → IR W3.heap.size V1 mv (mdP s3.vs) → V = put4 V1 w.heap.size (.int .i64 1) mv (.slice none 0 0) (.int .i64 (k3 : Int)) → (PS w.heap.size (n : Int) Cl (m : Int) (.returned (.tuple #[.agg #[.int .i64 1, mv, .slice none 0 0, .int .i64 (k3 : Int)], .int .i64 0])) V ∧ Below w.heap.size w V) ∧ V.heap[w.heap.size]? = some (.cells #[.int .i64 1, mv, .slice none 0 0, .int .i64 (k3 : Int)] 26)) := hide (fun V V1 mv g1 g2 g3 => by
            have hres1 : V1.heap[w.heap.size]? = some (.cells #[.int .i64 0, .slice none 0 0, .slice none 0 0, .int .i64 0] 26) := (g1.block _ (heap_lt hres)).trans hres
            have hbV1 : Below w.heap.size w V1 := hb.trans (g1.mono hb.size)
            subst g3
            refine ⟨⟨⟨1, mdP s3.vs, [], k3, 0, mv, _, [], w.heap.size, rfl, SolR.sat (unhide HK) rfl rfl hm1 hm2 hvs, ?_, ⟨rfl, .inl ⟨rfl, rfl⟩⟩, Nat.le_refl _, ?_, ?_, by simp, (fun c hc => by cases hc), .inr rfl⟩, put4_below hbV1 (Nat.le_refl _) _ _ _ _⟩, put4_heap hres1 _ _ _ _⟩
            · exact (g2.low hb.size).keep (fun g o hg => (put4_other _ _ _ _ _ _ g (ty_ne hg hres1 (by decide))).trans hg)
            · have := hbV1.size; unfold put4; simpa using this
            · unfold mdP; rw [List.length_map, List.length_drop]; omega)
          have HRB := hide hres
          clear hsv hfm hvr hvs rd hbnd hB3 hz3 hb hres hsa hsc hlv HSE
          go_wp2
          refine soRow HC0 HCV HC3 (hide hsl) HRB HCALL _ rfl rfl rfl rfl ?_
          intro a V V1 mv hnt hdf hkeep h7 g1 g2 g3
          obtain ⟨hPS, hres⟩ := unhide HFIN V V1 mv g1 g2 g3
          obtain ⟨ma, mc, rfl⟩ := IR.shape g2
          have HE := hide hPS
          obtain ⟨us, rfl, hus⟩ := putAll_of [7, 50, 51, 52, 53, 54, 55, 56, 57, 58, 59, 60, 61, 62, 63, 64] hnt hdf hkeep
          have h7' : us 7 = .int .i64 0 := by rw [hus 7]; exact h7
          clear hnt hdf hkeep hus h7 g1 g2 g3 hPS HFIN HC0 HCV HC3 HRB HCALL hsl
          simp only [putAll, List.foldl, Act.put, List.setIfInBounds_toArray, List.set_cons_zero, List.set_cons_succ, h7']
          generalize us 50 = z50 at *
          generalize us 51 = z51 at *
          generalize us 52 = z52 at *
          generalize us 53 = z53 at *
          generalize us 54 = z54 at *
          generalize us 55 = z55 at *
          generalize us 56 = z56 at *
          generalize us 57 = z57 at *
          generalize us 58 = z58 at *
          generalize us 59 = z59 at *
          generalize us 60 = z60 at *
          generalize us 61 = z61 at *
          generalize us 62 = z62 at *
          generalize us 63 = z63 at *
          generalize us 64 = z64 at *
          have r0 := resCell hres 0 rfl
          have r1 := resCell hres 1 rfl
          have r2 := resCell hres 2 rfl
          have r3 := resCell hres 3 rfl
          go_wp2
          refine bodyPost_ret (v := .tuple #[.agg #[.int .i64 1, .slice ma (mdP s3.vs).length mc, .slice none 0 0, .int .i64 (k3 : Int)], .int .i64 0]) ?_ rfl (unhide HE)
          simp [results, Try.results7, go_sem, r0, r1, r2, r3]
        · obtain ⟨hb, hres⟩ := unhide HBK W3 hB3
          have z0 := resCell hres 0 rfl
          have z1 := resCell hres 1 rfl
          have z2 := resCell hres 2 rfl
          have z3 := resCell hres 3 rfl
          have zf := fun i => resFrz hres i
          obtain ⟨ta, tc, rfl⟩ := own_shape hsv.ht
          have o2 := hsv.c2
          have o3 := hsv.c3
          have HE : Hid (PS w.heap.size (n : Int) Cl (m : Int) (.returned (.tuple #[.agg #[.int .i64 2, .slice none 0 0, .slice ta T3.length tc, .int .i64 (k3 : Int)], .int .i64 0])) (put4 W3 w.heap.size (.int .i64 2) (.slice none 0 0) (.slice ta T3.length tc) (.int .i64 (k3 : Int)))) := hide (by
            refine ⟨2, [], T3, k3, 0, _, _, vals3, E3, rfl, SolR.unsat (unhide HK) rfl rfl hm1 hm2 hvs, ⟨rfl, .inl ⟨rfl, rfl⟩⟩, ?_, ?_, ?_, by simp, hlT, fun c hc => Nat.le_trans (hvs.rows (N := 4000) rfl (Nat.zero_le _) (fun c hc => by cases hc) (by simp; omega) c hc) (by omega), .inl rfl⟩
            · exact own_low (ownsRow_keep hsv.ht (fun g o _ hg => (put4_other _ _ _ _ _ _ g (ty_ne hg hres (by decide))).trans hg)) (unhide HB1s)
            · exact RI.low T3 vals3 (unhide HB1s) (RI.kept T3 vals3 (fun u hu g o _ hg => (put4_other _ _ _ _ _ _ g (ty_ne hg hres (by decide))).trans hg) hsv.hi)
            · have := hsv.he; unfold put4; simpa using this)
          clear hsv hvs hB3 hz3 HSE
          go_wp2
          go_region
          go_wp2
          have hp := put4_heap hres (.int .i64 2) (.slice none 0 0) (.slice ta T3.length tc) (.int .i64 (k3 : Int))
          have r0 := resCell hp 0 rfl
          have r1 := resCell hp 1 rfl
          have r2 := resCell hp 2 rfl
          have r3 := resCell hp 3 rfl
          unfold put4 at r0 r1 r2 r3
          refine bodyPost_ret (v := .tuple #[.agg #[.int .i64 2, (.slice none 0 0), (.slice ta T3.length tc), .int .i64 (k3 : Int)], .int .i64 0]) ?_ rfl ⟨(unhide HE).drew, bdr (put4_below hb (Nat.le_refl _) _ _ _ _)⟩
          simp [results, Try.results7, go_sem, r0, r1, r2, r3]
end Go.Proofs.Ytonfbnbkhpabbaa
