/- The program's search. -/
import Derived.Test.YtonfbnbkhpabbaaV8
import Derived.WalkMore
namespace Go.Proofs.Ytonfbnbkhpabbaa
open Go Go.RowKit Gs
set_option linter.unusedVariables false
set_option linter.unusedSimpArgs false
set_option maxRecDepth 100000
theorem IQ.back {B n : Nat} {w : World} {Cl : List (List Int)} {t0 : List Int} {sb : Nat} {s : FS} {ds : List (Int × Nat)} {T : List (List Int)} {k : Nat} {W : World} (h : IQ B n w Cl t0 sb s ds T k W) : IB B n w Cl t0 sb s ds T k W :=
  ⟨h.sv, h.fm, h.bl, h.bw, ⟨_, _, h.ls⟩, h.sk, (fun e => by rw [h.br] at e; cases e), h.ln⟩
def wkW (b : Nat) (w : World) : Nat := match w.cell? ⟨b, 3, none⟩ with
  | some (.int _ z) => z.toNat
  | _ => 0
theorem wkW_eq {b f : Nat} {w : World} (h : w.cell? ⟨b, 3, none⟩ = some (.int .i64 (f : Int))) : wkW b w = f := by unfold wkW; rw [h]; simp
def dlW (b : Nat) (w : World) : Nat := match w.cell? ⟨b, 1, none⟩ with
  | some (.slice _ n _) => n
  | _ => 0
theorem dlW_eq {b f : Nat} {a : Option Addr} {c : Nat} {w : World} (h : w.cell? ⟨b, 1, none⟩ = some (.slice a f c)) : dlW b w = f := by unfold dlW; rw [h]
/-- What the search leaves. -/
def SEQ (B n most : Nat) (w : World) (Cl : List (List Int)) (sb : Nat) (e : Ending) (w' : World) : Prop :=
  (e = .returned (.tuple #[.int .i64 0, .int .i64 15]) ∧ Below B w w' ∧ Vs n most Cl true [] 0 [] .over) ∨
  (e = .returned (.tuple #[.int .i64 1, .int .i64 0]) ∧ Below B w w' ∧ B ≤ w'.heap.size ∧ ∃ s k E dv tv vals ds T, SV B n E w' s sb dv tv vals ds T k ∧ FM B n none w' s ∧ k ≤ most ∧ VR n s.t s.vs ∧ Vs n most Cl true [] 0 [] (.sat (mdP s.vs) k)) ∨
  (e = .returned (.tuple #[.int .i64 2, .int .i64 0]) ∧ Below B w w' ∧ B ≤ w'.heap.size ∧ ∃ s k E dv tv vals ds T, SV B n E w' s sb dv tv vals ds T k ∧ k ≤ most ∧ T.length ≤ 4001 ∧ Vs n most Cl true [] 0 [] (.unsat T k))
theorem IB.c1 {B n : Nat} {w : World} {Cl : List (List Int)} {t0 : List Int} {sb : Nat} {s : FS} {ds : List (Int × Nat)} {T : List (List Int)} {k : Nat} {W : World} (h : IB B n w Cl t0 sb s ds T k W) : ∃ a c, W.cell? ⟨sb, 1, none⟩ = some (.slice a ds.length c) := by
  obtain ⟨E, dv, tv, vals, hsv⟩ := h.sv
  obtain ⟨a, c, e⟩ := own_shape hsv.hd
  exact ⟨a, c, by have := hsv.c1; rw [e] at this; exact this⟩
set_option maxHeartbeats 16000000 in
theorem iSearch {B n most : Nat} {w W : World} {Cl : List (List Int)} {t0 : List Int} {sb : Nat} {s0 : FS} (h : IV B n most w Cl t0 sb s0 [] [] 0 W) (hB : B = w.heap.size) (hC : ∀ c ∈ Cl, Lits n c) (hn : n ≤ 2048) (hm : most ≤ 4000) : Calls Try.prog 19 #[.pointer (some ⟨sb, 0, none⟩), .int .i64 (most : Int)] W (SEQ B n most w Cl sb) := by
  have H := hide h
  have HC := hide hC
  have HB := hide hB
  clear h hC hB
  go_enter Try.func19, Try.ntmps19
  go_wp2_with fail
  go_step3
  go_wp2
  go_step3
  go_wp2
  go_loopw [6] (fun v6 wr => ∃ s ds T k, IV B n most w Cl t0 sb s ds T k wr ∧ k ≤ most) (fun v6 wr => most - wkW sb wr)
  case atStart => exact ⟨s0, [], [], 0, unhide H, Nat.zero_le _⟩
  case round =>
    obtain ⟨s, ds, T, k, hiv, hkm⟩ := hrel
    clear H
    obtain ⟨E, dv, tv, vals, hsv⟩ := hiv.sv
    have c3 := hsv.c3
    have f3 := hsv.frz 3
    have HMU := hide (wkW_eq c3)
    by_cases hk : k < most
    · have i1 : (k : Int) < (most : Int) := by omega
      have i2 : (k : Int) ≤ 4000 := by omega
      have c0 := hsv.work.c0
      have HFO := hide (iFollowV hiv hn (unhide HB))
      have HVS := hide hiv.vs
      have HME := hide hiv
      clear hiv hsv
      go_wp2_with fail
      refine (unhide HFO).mono ?_
      rintro e w' (⟨rfl, r, hq⟩ | ⟨rfl, hcon, r, hib⟩)
      · clear HFO HME c0 c3 f3
        obtain ⟨E1, dv1, tv1, vals1, hsv1⟩ := hq.sv
        have HLE := hide (iLeast hq.fm hsv1.c0 hn)
        have HNC := hide (hq.con (unhide HC))
        have c31 := hsv1.c3
        have HMU1 := hide (wkW_eq c31)
        have HQ := hide hq
        clear hq hsv1 c31
        go_wp2_with fail
        refine (unhide HLE).mono ?_
        rintro e w2 ⟨⟨z, rfl, hz⟩, hw⟩
        have hw' := hw.symm
        subst hw'
        rcases (unhide HQ).least hz with ⟨rfl, hful⟩ | ⟨v, rfl, hv1, hv2, hlst, hop⟩
        · have HE : Hid (SEQ B n most w Cl sb (.returned (.tuple #[.int .i64 1, .int .i64 0])) w') := hide (by
            obtain ⟨E1, dv1, tv1, vals1, hsv1⟩ := (unhide HQ).sv
            exact .inr (.inl ⟨rfl, (unhide HQ).bl, (unhide HQ).bw, r, k + 1, _, _, _, _, _, _, hsv1, (unhide HQ).fm, by omega, (unhide HQ).ls.vr, unhide HVS _ (.sat (by omega) (unhide HNC) hful (unhide HQ).mdl)⟩))
          clear hz hful HLE
          go_wp2
          rw [Exit.noGoto_ret]
          exact bodyPost_ret (v := .tuple #[.int .i64 1, .int .i64 0]) (by simp [results, Try.results19, go_sem]) rfl (unhide HE)
        · have v0 : ((v : Int) == 0) = false := by simp; omega
          have v1 : (v : Int) ≤ 2048 := by omega
          have HDE := hide (iDecideV (most := most) (unhide HQ) (by omega) hn (l := -(v : Int)) ⟨by omega, by omega, by omega⟩ hop (fun R hR => unhide HVS R (.down (by omega) (unhide HNC) hlst hR)))
          clear hz hlst hop HLE HQ HNC
          go_wp2_with fail
          refine (unhide HDE).mono ?_
          rintro e w3 ⟨rfl, r3, hiv3⟩
          have HIV3 := hide hiv3
          have HMU3 : Hid (wkW sb w3 = k + 1) := hide (by obtain ⟨_, _, _, _, q⟩ := hiv3.sv; exact wkW_eq q.c3)
          clear hiv3 HDE
          go_wp2
          refine ⟨⟨_, _, _, _, unhide HIV3, by omega⟩, ?_⟩
          rw [unhide HMU, unhide HMU3]; omega
      · clear HFO HME c0 c3 f3
        have HBK : Hid (∀ R, Vs n most Cl false (dL ds) (k + 1) (T ++ [negs (dL ds)]) R → Vs n most Cl true [] 0 [] R) := hide (fun R hR => unhide HVS R (.fail (by omega) hcon hR))
        have HIB := hide hib
        clear hib hcon HVS
        go_wp2
        go_loopw [7] (fun v7 wr => ∃ s1 ds1 T1, IB B n w Cl t0 sb s1 ds1 T1 (k + 1) wr ∧ ∀ R, Vs n most Cl false (dL ds1) (k + 1) (T1 ++ [negs (dL ds1)]) R → Vs n most Cl true [] 0 [] R) (fun v7 wr => dlW sb wr)
        case atStart => exact ⟨r, ds, T, unhide HIB, unhide HBK⟩
        case round =>
          obtain ⟨s1, ds1, T1, hib1, hbk1⟩ := hrel
          clear HIB HBK
          obtain ⟨xa, xc, c1⟩ := hib1.c1
          have HML := hide (dlW_eq c1)
          have hlen1 : ds1.length ≤ 4000 := by have := hib1.ln; omega
          have HPU := hide (iPutV hib1 (by omega) hn)
          rcases List.eq_nil_or_concat ds1 with rfl | ⟨ds2, ⟨l, m⟩, rfl⟩
          · have l0 : ¬ (0 : Int) < ((([] : List (Int × Nat)).length : Nat) : Int) := by simp
            have HBK := hide hbk1
            have HL1 : Hid (T1.length + 1 ≤ k + 1) := hide (by have := hib1.ln; simpa using this)
            clear hib1 hbk1
            simp only [List.length_nil] at c1 l0
            go_wp2_with fail
            refine (unhide HPU).mono ?_
            rintro e w4 ⟨rfl, hb4, hz4, ⟨E4, dv4, tv4, vals4, hsv4⟩, hf4⟩
            have HE : Hid (SEQ B n most w Cl sb (.returned (.tuple #[.int .i64 2, .int .i64 0])) w4) := hide (.inr (.inr ⟨rfl, hb4, hz4, _, _, _, _, _, _, _, _, hsv4, by omega, by have := unhide HL1; rw [List.length_append]; simp; omega, unhide HBK _ (.done rfl)⟩))
            clear hb4 hz4 hsv4 hf4 HPU
            go_wp2
            rw [Exit.noGoto_ret]
            exact bodyPost_ret (v := .tuple #[.int .i64 2, .int .i64 0]) (by simp [results, Try.results19, go_sem]) rfl (unhide HE)
          · rw [List.concat_eq_append] at *
            have hl2 : (ds2 ++ [(l, m)]).length = ds2.length + 1 := by simp
            rw [hl2] at c1
            rw [hl2] at HML
            have l0 : (0 : Int) < ((ds2.length + 1 : Nat) : Int) := by omega
            have HIB1 := hide hib1
            have HBK1 := hide hbk1
            clear hib1 hbk1 hl2 hlen1
            go_wp2_with fail
            refine (unhide HPU).mono ?_
            rintro e w4 ⟨rfl, hb4, hz4, hsv4, hf4⟩
            have HUN := hide (iUndoV (unhide HIB1) hb4 hz4 hsv4 hf4 (by omega) hn)
            clear hb4 hz4 hsv4 hf4 HPU c1
            go_wp2_with fail
            refine (unhide HUN).mono ?_
            rintro e w5 ⟨rfl, hlit, r5, hop5, hq5⟩
            have edl : dL (ds2 ++ [(l, m)]) = dL ds2 ++ [l] := by unfold dL; simp
            obtain ⟨a1, a2, a3⟩ := id hlit
            have b1 : -2048 ≤ l := by omega
            have b2 : l ≤ 2048 := by omega
            clear HUN
            by_cases hneg : l < 0
            · have HDE := hide (iDecideV (most := most) hq5 (by omega) hn (l := -l) hlit.neg ⟨hop5.2, by rw [Int.neg_neg]; exact hop5.1⟩ (fun R hR => unhide HBK1 R (by rw [edl]; rw [edl] at hR; exact .turn rfl hneg hR)))
              clear hq5 hop5 hlit HIB1 HBK1 edl a1 a2 a3
              go_wp2_with fail
              refine (unhide HDE).mono ?_
              rintro e w6 ⟨rfl, r6, hiv6⟩
              have HIV6 := hide hiv6
              have HMU6 : Hid (wkW sb w6 = k + 1) := hide (by obtain ⟨_, _, _, _, q⟩ := hiv6.sv; exact wkW_eq q.c3)
              clear hiv6 HDE
              go_wp2
              refine ⟨⟨_, _, _, _, unhide HIV6, by omega⟩, ?_⟩
              rw [unhide HMU, unhide HMU6]; omega
            · have HIB5 := hide hq5.back
              have HBK5 : Hid (∀ R, Vs n most Cl false (dL ds2) (k + 1) (T1 ++ [negs (dL (ds2 ++ [(l, m)]))] ++ [negs (dL ds2)]) R → Vs n most Cl true [] 0 [] R) := hide (fun R hR => unhide HBK1 R (by rw [edl]; rw [edl] at hR; exact .up rfl hneg hR))
              have HML5 : Hid (dlW sb w5 = ds2.length) := hide (by obtain ⟨xa5, xc5, c5⟩ := hq5.back.c1; exact dlW_eq c5)
              clear hq5 hop5 hlit HIB1 HBK1 edl a1 a2 a3
              go_wp2
              refine ⟨⟨_, _, _, unhide HIB5, unhide HBK5⟩, ?_⟩
              rw [unhide HML, unhide HML5]; omega
    · have i1 : ¬ (k : Int) < (most : Int) := by omega
      have HE : Hid (SEQ B n most w Cl sb (.returned (.tuple #[.int .i64 0, .int .i64 15])) wr) := hide (.inl ⟨rfl, hiv.fo.bl, hiv.vs _ (.over (by omega))⟩)
      clear hiv hsv
      go_wp2
      exact bodyPost_ret (v := .tuple #[.int .i64 0, .int .i64 15]) (by simp [results, Try.results19, go_sem]) rfl (unhide HE)
end Go.Proofs.Ytonfbnbkhpabbaa
namespace Go.Proofs.Ytonfbnbkhpabbaa
open Go Go.RowKit Gs
set_option linter.unusedVariables false
set_option linter.unusedSimpArgs false
set_option maxRecDepth 100000
set_option maxHeartbeats 3200000 in
theorem iBit (x : Int) (w : World) (hx : -1 ≤ x ∧ x ≤ 1) : Calls Try.prog 20 #[.int .i64 x] w fun e w' => e = .returned (.int .i64 (max x 0)) ∧ w' = w := by
  have h3 : x = -1 ∨ x = 0 ∨ x = 1 := by omega
  rcases h3 with rfl | rfl | rfl
  · go_enter Try.func20, Try.ntmps20
    go_wp2
    exact bodyPost_ret (v := .int .i64 0) (by simp [results, Try.results20, go_sem]) rfl ⟨rfl, rfl⟩
  · go_enter Try.func20, Try.ntmps20
    go_wp2
    exact bodyPost_ret (v := .int .i64 0) (by simp [results, Try.results20, go_sem]) rfl ⟨rfl, rfl⟩
  · go_enter Try.func20, Try.ntmps20
    go_wp2
    exact bodyPost_ret (v := .int .i64 1) (by simp [results, Try.results20, go_sem]) rfl ⟨rfl, rfl⟩
def bits (xs : List Int) : List Int := xs.map fun x => max x 0
theorem bits_take {xs : List Int} {k : Nat} {x : Int} (h : xs[k]? = some x) : bits (xs.take (k + 1)) = bits (xs.take k) ++ [max x 0] := by
  unfold bits; rw [List.take_add_one, h]; simp
set_option maxHeartbeats 6400000 in
theorem iList (xs : List Int) (v : Value) (w : World) (hl : xs.length ≤ 4096) (hb : ∀ x ∈ xs, -1 ≤ x ∧ x ≤ 1) (hr : RS 1 RInt w 0 xs v) :
    Calls Try.prog 21 #[v, .func (.func 20) #[] #[]] w fun e w' => (∃ v', e = .returned v' ∧ IR w.heap.size w' v' (bits xs)) ∧ Below w.heap.size w w' := by
  obtain ⟨a, c, rfl⟩ := hr.slice
  have HI := hide (ints hr)
  have HX := hide hb
  obtain ⟨i0, hi, hz0, hz1, hz2⟩ := info_parts info3
  have HIN := hide (And.intro hi (And.intro hz0 (And.intro hz1 hz2)))
  clear hr hb hi hz0 hz1 hz2
  go_enter Try.func21, Try.ntmps21
  go_wp2
  go_loopw [5, 10] (fun v i wr => ∃ j : Nat, j ≤ xs.length ∧ i = .int .i64 (j : Int) ∧ IR w.heap.size wr v (bits (xs.take j)) ∧ Below w.heap.size w wr) (fun v i wr => xs.length - (intOf i).toNat)
  case atStart => exact ⟨0, Nat.zero_le _, rfl, ⟨rfl, .inl ⟨rfl, rfl⟩⟩, brf w⟩
  case round =>
    obtain ⟨j, hj, rfl, hir, hbl⟩ := hrel
    by_cases hjl : j < xs.length
    · have hz : xs[j]? = some xs[j] := List.getElem?_eq_getElem hjl
      generalize xs[j] = z at hz
      obtain ⟨yb, yo, rfl, z0'⟩ := unhide HI j z hz
      have z0 := cell_later hbl z0'
      have HNG := hide (bits_take hz)
      have HBI := hide (iBit z wr (unhide HX z (List.mem_of_getElem? hz)))
      obtain ⟨m, hmm⟩ : ∃ m, m = max z 0 := ⟨_, rfl⟩
      rw [← hmm] at HBI HNG
      clear hmm
      have j1 : (j : Int) < (xs.length : Int) := by omega
      have j2 : (0 : Int) ≤ (j : Int) := by omega
      obtain ⟨va, vc, rfl⟩ := hir.shape
      obtain ⟨nl, hnl⟩ : ∃ nl, nl = (bits (xs.take j)).length := ⟨_, rfl⟩
      have hnl2 : nl ≤ 4096 := by rw [hnl]; unfold bits; rw [List.length_map, List.length_take]; omega
      have HOWN : Hid (World.ownsRow (wr.alloc (.cells #[.int .i64 m] 3)) w.heap.size 3 1 (.slice va nl vc) nl (iL (bits (xs.take j)))) := hide (by
        have h1 := hir.keep (KI.below (bal (brf wr) (.cells #[.int .i64 m] 3)))
        unfold IR at h1
        rw [← hnl] at h1; exact h1)
      have HBW := hide (show Below w.heap.size w (wr.alloc (.cells #[.int .i64 m] 3)) from bal hbl _)
      have HFIN : Hid (∀ v' w3, World.ownsRow w3 w.heap.size 3 1 v' (nl + 1) (iL (bits (xs.take j)) ++ [.int .i64 m]) → World.grownBy (wr.alloc (.cells #[.int .i64 m] 3)) w3 (Value.slice va nl vc).ownBlock → IR w.heap.size w3 v' (bits (xs.take (j + 1))) ∧ Below w.heap.size w w3) := hide (fun v' w3 h1 h2 => by
        refine ⟨?_, (unhide HBW).grown h2 (unhide HBW).size (fun j hj => (World.ownsRow.lt (unhide HOWN) j hj).1)⟩
        unfold IR
        rw [unhide HNG, List.length_append, ← hnl]
        unfold iL at *
        rw [List.map_append]; exact h1)
      rw [← hnl]
      clear hir hbl hz z0' hnl HX
      go_wp2_with fail
      refine (unhide HBI).mono ?_
      rintro e w2 ⟨rfl, hw⟩
      have hw' := hw.symm
      subst hw'
      go_wp2_with (first
        | (at_builtin; refine wpAppAt rfl _ _ 24 rfl w.heap.size 3 i0 (.int .i64 0) 1 8 Try.underlying24 (unhide HIN).1 (unhide HIN).2.1 (unhide HIN).2.2.1 (unhide HIN).2.2.2 rfl (by decide) _ _ _ rfl (unhide HOWN) ⟨wr.heap.size, 0, none⟩ 1 1 [.int .i64 m] rfl rfl (at_int _ _ _ rfl) (one_int _) (by unfold maxLen; omega) (by omega) (unhide HBW).size ?_; intro v' w3 k1' k2' k3'; have HFN := hide (unhide HFIN _ w3 k1' k2'); clear k1' k2' k3')
        | fail)
      exact ⟨⟨j + 1, by omega, by go_num, (unhide HFN).1, (unhide HFN).2⟩, by simp [intOf]; omega⟩
    · obtain rfl : j = xs.length := by omega
      rw [List.take_of_length_le (Nat.le_refl _)] at hir
      have j1 : ¬ (xs.length : Int) < (xs.length : Int) := by omega
      have HIR := hide hir
      have HBL := hide hbl
      obtain ⟨va, vc, rfl⟩ := hir.shape
      clear hir hbl
      go_wp2
      exact bodyPost_ret (v := .slice va (bits xs).length vc) (by simp [results, Try.results21, go_sem]) rfl ⟨⟨_, rfl, unhide HIR⟩, unhide HBL⟩
end Go.Proofs.Ytonfbnbkhpabbaa
