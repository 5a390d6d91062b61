/- Where what reads a source stands: the loop over the outs and checks. -/
import Derived.Test.YtlldfaniddbjaaaGreatDoorRS5
namespace Go.Proofs.YtlldfaniddbjaaaGreatDoor
open Go Go.RowKit Gs
set_option linter.unusedVariables false
set_option linter.unusedSimpArgs false
set_option maxRecDepth 100000
set_option maxHeartbeats 16000000
/-- The places of the first outs and checks that read a source. -/
def rdE (W H : Nat) (s : Int) (es : List Port) : Nat → List (Int × Int)
  | 0 => []
  | k + 1 => rdE W H s es k ++ (match es[k]? with | some e => if e.src = s then [((W : Int), (k : Int) % (H : Int))] else [] | none => [])
theorem rdE_yes {W H : Nat} {s a : Int} {es : List Port} {k : Nat} {e : Port} (h : es[k]? = some e) (hs : e.src = s) (ha : (k : Int) % (H : Int) = a) : rdE W H s es (k + 1) = rdE W H s es k ++ [((W : Int), a)] := by
  rw [rdE, h]
  simp only [if_pos hs, ha]
theorem rdE_no {W H : Nat} {s : Int} {es : List Port} {k : Nat} {e : Port} (h : es[k]? = some e) (hs : e.src ≠ s) : rdE W H s es (k + 1) = rdE W H s es k := by
  rw [rdE, h]
  simp only [if_neg hs, List.append_nil]
theorem rdE_len (W H : Nat) (s : Int) (es : List Port) : ∀ k, (rdE W H s es k).length ≤ k
  | 0 => by simp [rdE]
  | k + 1 => by
    have := rdE_len W H s es k
    rw [rdE, List.length_append]
    split
    · split <;> simp <;> omega
    · simp; omega
theorem port_src {w : World} {ps : List Port} {s : Option Addr} {l c : Nat} (h : RS 2 RPort w 0 ps (.slice s l c)) : ∀ (k : Nat) p, ps[k]? = some p → ∃ b o, s = some ⟨b, o, none⟩ ∧ w.cell? ⟨b, o + k * 2 + 1, none⟩ = some (.int .i64 p.src) := by
  intro k p hk
  rcases h.open with ⟨rfl, _⟩ | ⟨b, o, c', hv, _, _, _, he⟩
  · simp at hk
  · injection hv with e1 e2 e3
    obtain ⟨u, hu, hat, rfl, hnm⟩ := he k p hk
    exact ⟨b, o, e1, hat 1 _ rfl⟩
def FRe2 (W H g k vl vc : Nat) (va : Option Addr) (ym : Int) : Nat → Value → Prop
  | 0, v => v = .slice va vl vc
  | 1, v => v = .pointer (some ⟨g + 1, 0, none⟩)
  | 2, v => v = .int .i64 (W : Int)
  | 3, v => v = .int .i64 (k : Int)
  | 4, v => v = .pointer (some ⟨g + 1, 1, none⟩)
  | 5, v => v = .int .i64 (H : Int)
  | 6, v => v = .int .i64 ym
  | 7, v => v = .agg #[.int .i64 (W : Int), .int .i64 ym]
  | 8, v => True
  | 9, v => True
  | 10, v => True
  | _, _ => True

theorem rdL2 {u0 u1 u2 u6 u7 u8 u10 u12 u13 u14 u15 u16 u17 u18 u19 u20 u21 u22 u23 u24 u25 u26 u27 u28 u29 u30 u31 u32 u33 u34 u35 u36 u37 u38 u39 u40 u41 u42 u43 u44 u45 u46 u47 u48 u49 u50 u51 u52 u53 u54 u55 u56 u57 u58 u59 u60 u61 u62 u63 u64 u65 u66 u67 u68 u69 u70 u71 u72 u73 u74 u75 u76 u77 u78 u79 u80 u81 u82 u83 : Value} {W H T P g s n3 n4 c3 c4 m : Nat} {s3 s4 : Option Addr} {v0 : Value} {acc0 : List (Int × Int)} {es po pc : List Port} {w X V0 : World} {Q : Exit → Act → World → Prop} (hW : W ≤ 8) (hH1 : 1 ≤ H) (hH : H ≤ 8) (hes : es = po ++ pc) (hn3 : po.length = n3) (hn4 : pc.length = n4) (hm : n3 + n4 = m) (hm2 : m ≤ 64) (hs : s ≤ 2097152) (hacc : acc0.length ≤ 64) (HXB : Hid (Below w.heap.size w X))
    (HP3 : Hid (∀ (k : Nat) p, po[k]? = some p → ∃ b o, s3 = some ⟨b, o, none⟩ ∧ w.cell? ⟨b, o + k * 2 + 1, none⟩ = some (.int .i64 p.src))) (HP4 : Hid (∀ (k : Nat) p, pc[k]? = some p → ∃ b o, s4 = some ⟨b, o, none⟩ ∧ w.cell? ⟨b, o + k * 2 + 1, none⟩ = some (.int .i64 p.src)))
    (HCP : Hid (∀ V, Below X.heap.size X V → V.cell? ⟨g, 3, none⟩ = some (.slice s3 n3 c3) ∧ V.cell? ⟨g, 4, none⟩ = some (.slice s4 n4 c4)))
    (HCC : Hid (∀ V, Below X.heap.size X V → V.cell? ⟨g + 1, 0, none⟩ = some (.int .i64 (W : Int)) ∧ V.cell? ⟨g + 1, 1, none⟩ = some (.int .i64 (H : Int)) ∧ V.cell? ⟨g + 1, 2, none⟩ = some (.int .i64 (T : Int)) ∧ V.cell? ⟨g + 1, 3, none⟩ = some (.int .i64 (P : Int))))
    (HO : Hid (OW 57 2 spC X.heap.size V0 v0 acc0)) (HB0 : Hid (Below X.heap.size X V0))
    (hQ : ∀ (z11 z12 z38 z39 z40 z41 z42 z43 z44 z45 z46 z47 z48 z49 z50 z51 z52 z53 z54 z55 z56 z57 z58 z59 z60 z61 z62 z63 z64 z65 z66 z67 z68 z69 z70 z71 z72 z73 z74 z75 z76 z77 z78 z79 z80 z81 z82 : Value) V v, OW 57 2 spC X.heap.size V v (acc0 ++ rdE W H s es m) → Below X.heap.size X V → Q (.exit 2) { tmps := (u0 :: u1 :: u2 :: .int .i64 (s : Int) :: .pointer (some ⟨g, 0, none⟩) :: .pointer (some ⟨g + 1, 0, none⟩) :: u6 :: u7 :: u8 :: v :: u10 :: z11 :: z12 :: u13 :: u14 :: u15 :: u16 :: u17 :: u18 :: u19 :: u20 :: u21 :: u22 :: u23 :: u24 :: u25 :: u26 :: u27 :: u28 :: u29 :: u30 :: u31 :: u32 :: u33 :: u34 :: u35 :: u36 :: u37 :: z38 :: z39 :: z40 :: z41 :: z42 :: z43 :: z44 :: z45 :: z46 :: z47 :: z48 :: z49 :: z50 :: z51 :: z52 :: z53 :: z54 :: z55 :: z56 :: z57 :: z58 :: z59 :: z60 :: z61 :: z62 :: z63 :: z64 :: z65 :: z66 :: z67 :: z68 :: z69 :: z70 :: z71 :: z72 :: z73 :: z74 :: z75 :: z76 :: z77 :: z78 :: z79 :: z80 :: z81 :: z82 :: u83 :: []).toArray, defers := [] } V) :
    Code.wp Tryz.prog (atB 2 (bodyOf Tryz.f48)) Q { tmps := (u0 :: u1 :: u2 :: .int .i64 (s : Int) :: .pointer (some ⟨g, 0, none⟩) :: .pointer (some ⟨g + 1, 0, none⟩) :: u6 :: u7 :: u8 :: v0 :: u10 :: .int .i64 0 :: u12 :: u13 :: u14 :: u15 :: u16 :: u17 :: u18 :: u19 :: u20 :: u21 :: u22 :: u23 :: u24 :: u25 :: u26 :: u27 :: u28 :: u29 :: u30 :: u31 :: u32 :: u33 :: u34 :: u35 :: u36 :: u37 :: u38 :: u39 :: u40 :: u41 :: u42 :: u43 :: u44 :: u45 :: u46 :: u47 :: u48 :: u49 :: u50 :: u51 :: u52 :: u53 :: u54 :: u55 :: u56 :: u57 :: u58 :: u59 :: u60 :: u61 :: u62 :: u63 :: u64 :: u65 :: u66 :: u67 :: u68 :: u69 :: u70 :: u71 :: u72 :: u73 :: u74 :: u75 :: u76 :: u77 :: u78 :: u79 :: u80 :: u81 :: u82 :: u83 :: []).toArray, defers := [] } V0 := by
  have HQ0 := hide hQ
  have HES := hide hes
  have HN3 := hide hn3
  have HN4 := hide hn4
  have HM := hide hm
  have HAC0 := hide hacc
  have q34 : (n3 : Int) + (n4 : Int) = (m : Int) := by omega
  clear hQ hes hn3 hn4 hacc
  conv => arg 2; whnf
  go_loopw [9, 11] (fun v i wr => ∃ k : Nat, k ≤ m ∧ i = .int .i64 k ∧ OW 57 2 spC X.heap.size wr v (acc0 ++ rdE W H s es k) ∧ Below X.heap.size X wr) (fun _ i wr => m - (intOf i).toNat)
  case atStart => exact ⟨0, Nat.zero_le _, rfl, by rw [rdE, List.append_nil]; exact unhide HO, unhide HB0⟩
  case round =>
    obtain ⟨k, hk, rfl, hot, hb⟩ := hrel
    obtain ⟨q3, q4⟩ := unhide HCP wr hb
    have HB := hide hb
    have HSZ := hide hb.size
    by_cases hlt : k < m
    · have HAL := hide (show (acc0 ++ rdE W H s es k).length ≤ 128 by have := unhide HAC0; have := rdE_len W H s es k; rw [List.length_append]; omega)
      obtain ⟨va, vc, hvs, hvc⟩ := hot.slice
      obtain ⟨vl, hvl⟩ : ∃ vl, (acc0 ++ rdE W H s es k).length = vl := ⟨_, rfl⟩
      rw [hvl] at hvs
      subst hvs
      have HOT := hide hot
      have hz0 : ¬ H = 0 := by omega
      have HZ := hide hz0
      obtain ⟨ym, ha⟩ : ∃ a, (k : Int) % (H : Int) = a := ⟨_, rfl⟩
      have HA : Hid (Int.tmod (k : Int) (H : Int) = ym) := hide (by rw [Int.tmod_eq_emod_of_nonneg (by omega), ha])
      have i2 : (k : Int) < (m : Int) := by omega
      have i1 : (0 : Int) ≤ (k : Int) := by omega
      clear hz0
      by_cases h3 : k < n3
      · obtain ⟨x, hx0⟩ : ∃ x, po[k]? = some x := ⟨_, List.getElem?_eq_getElem (by rw [unhide HN3]; exact h3)⟩
        have hx : es[k]? = some x := by rw [unhide HES, List.getElem?_append_left (by rw [unhide HN3]; exact h3)]; exact hx0
        obtain ⟨b, o, rfl, hc⟩ := unhide HP3 k x hx0
        have k0 := cell_later hb (cell_later (unhide HXB) hc)
        have i3 : (k : Int) < (n3 : Int) := by omega
        clear hx0 hc hm h3
        obtain ⟨z, hz⟩ : ∃ z, x.src = z := ⟨_, rfl⟩
        rw [hz] at k0
        by_cases hh : z = (s : Int)
        · have HST := hide (rdE_yes (W := W) (H := H) (a := ym) hx (hz.trans hh) ha)
          subst hh
          clear hot hb hx ha hvl hvc hz
          obtain ⟨acc, hacc⟩ : ∃ acc, acc0 ++ rdE W H (s : Int) es k = acc := ⟨_, rfl⟩
          have HACC := hide hacc
          rw [hacc] at HOT HAL
          clear hacc
          go_wp2_with fail
          refine wp_plan (GB (FRe2 W H g k vl vc va ym) (F2B 8 (spC ((W : Int), ym))) 9 (AP 57 2 spC X.heap.size wr (.slice va vl vc) (acc ++ [((W : Int), ym)]))) (JC wr 9) (by kernel_rfl) 84 (by kernel_rfl) (by kernel_rfl) ?hj ?hs ?hf
          case hj => exact fun _ => bdr (brf wr)
          case hs =>
            refine ⟨?_, ?_, ?_, ?_, ?_, ?_, ?_, ?_, ?_, ?_, ?_, trivial⟩
            · exact sb_val (by decide) (by decide) (fun l a w hp hu => ⟨(und hp (k := 0) (j := 9) (by kernel_rfl) hu), (und hp (k := 0) (j := 10) (by kernel_rfl) hu)⟩) rfl (fun l a V hp h1 hB ha => ⟨.slice va vl vc, by
                have x9 := (ev_form a 9).trans (show a.eval (.tmp 9) = .slice va vl vc from (hp.fresh 10 _ 9 rfl rfl h1).trans (by kernel_rfl))
                go_simp, rfl, fun e => absurd e (by decide)⟩)
            · exact sb_val (by decide) (by decide) (fun l a w hp hu => ⟨(und hp (k := 8) (j := 9) (by kernel_rfl) (und hp (k := 7) (j := 8) (by kernel_rfl) (und hp (k := 2) (j := 7) (by kernel_rfl) (und hp (k := 1) (j := 2) (by kernel_rfl) hu)))), (und hp (k := 1) (j := 10) (by kernel_rfl) hu)⟩) rfl (fun l a V hp h1 hB ha => ⟨.pointer (some ⟨g + 1, 0, none⟩), by
                have x5 := (ev_form a 5).trans (old hp 5 (v := .pointer (some ⟨g + 1, 0, none⟩)) (by kernel_rfl) (by kernel_rfl))
                go_simp, rfl, fun e => absurd e (by decide)⟩)
            · exact sb_val (by decide) (by decide) (fun l a w hp hu => ⟨(und hp (k := 8) (j := 9) (by kernel_rfl) (und hp (k := 7) (j := 8) (by kernel_rfl) (und hp (k := 2) (j := 7) (by kernel_rfl) hu))), (und hp (k := 2) (j := 10) (by kernel_rfl) hu)⟩) rfl (fun l a V hp h1 hB ha => ⟨.int .i64 (W : Int), by
                have x74 := (ev_form a 74).trans (show a.eval (.tmp 74) = .pointer (some ⟨g + 1, 0, none⟩) from (kn hp ha 74 1 (by kernel_rfl) (by kernel_rfl)).1)
                obtain ⟨k0, k1, k2, k3⟩ := unhide HCC V (btr (unhide HB) hB)
                go_simp, rfl, fun e => absurd e (by decide)⟩)
            · exact sb_val (by decide) (by decide) (fun l a w hp hu => ⟨(und hp (k := 8) (j := 9) (by kernel_rfl) (und hp (k := 7) (j := 8) (by kernel_rfl) (und hp (k := 6) (j := 7) (by kernel_rfl) (und hp (k := 3) (j := 6) (by kernel_rfl) hu)))), (und hp (k := 3) (j := 10) (by kernel_rfl) hu)⟩) rfl (fun l a V hp h1 hB ha => ⟨.int .i64 (k : Int), by
                have x11 := (ev_form a 11).trans (old hp 11 (v := .int .i64 (k : Int)) (by kernel_rfl) (by kernel_rfl))
                go_simp, rfl, fun e => absurd e (by decide)⟩)
            · exact sb_val (by decide) (by decide) (fun l a w hp hu => ⟨(und hp (k := 8) (j := 9) (by kernel_rfl) (und hp (k := 7) (j := 8) (by kernel_rfl) (und hp (k := 6) (j := 7) (by kernel_rfl) (und hp (k := 5) (j := 6) (by kernel_rfl) (und hp (k := 4) (j := 5) (by kernel_rfl) hu))))), (und hp (k := 4) (j := 10) (by kernel_rfl) hu)⟩) rfl (fun l a V hp h1 hB ha => ⟨.pointer (some ⟨g + 1, 1, none⟩), by
                have x5 := (ev_form a 5).trans (old hp 5 (v := .pointer (some ⟨g + 1, 0, none⟩)) (by kernel_rfl) (by kernel_rfl))
                go_simp, rfl, fun e => absurd e (by decide)⟩)
            · exact sb_val (by decide) (by decide) (fun l a w hp hu => ⟨(und hp (k := 8) (j := 9) (by kernel_rfl) (und hp (k := 7) (j := 8) (by kernel_rfl) (und hp (k := 6) (j := 7) (by kernel_rfl) (und hp (k := 5) (j := 6) (by kernel_rfl) hu)))), (und hp (k := 5) (j := 10) (by kernel_rfl) hu)⟩) rfl (fun l a V hp h1 hB ha => ⟨.int .i64 (H : Int), by
                have x77 := (ev_form a 77).trans (show a.eval (.tmp 77) = .pointer (some ⟨g + 1, 1, none⟩) from (kn hp ha 77 4 (by kernel_rfl) (by kernel_rfl)).1)
                obtain ⟨k0, k1, k2, k3⟩ := unhide HCC V (btr (unhide HB) hB)
                go_simp, rfl, fun e => absurd e (by decide)⟩)
            · exact sb_val (by decide) (by decide) (fun l a w hp hu => ⟨(und hp (k := 8) (j := 9) (by kernel_rfl) (und hp (k := 7) (j := 8) (by kernel_rfl) (und hp (k := 6) (j := 7) (by kernel_rfl) hu))), (und hp (k := 6) (j := 10) (by kernel_rfl) hu)⟩) rfl (fun l a V hp h1 hB ha => ⟨.int .i64 ym, by
                have x76 := (ev_form a 76).trans (show a.eval (.tmp 76) = .int .i64 (k : Int) from (kn hp ha 76 3 (by kernel_rfl) (by kernel_rfl)).1)
                have x78 := (ev_form a 78).trans (show a.eval (.tmp 78) = .int .i64 (H : Int) from (kn hp ha 78 5 (by kernel_rfl) (by kernel_rfl)).1)
                have hz := unhide HZ; have ha := unhide HA
                go_simp, rfl, fun e => absurd e (by decide)⟩)
            · exact sb_val (by decide) (by decide) (fun l a w hp hu => ⟨(und hp (k := 8) (j := 9) (by kernel_rfl) (und hp (k := 7) (j := 8) (by kernel_rfl) hu)), (und hp (k := 7) (j := 10) (by kernel_rfl) hu)⟩) rfl (fun l a V hp h1 hB ha => ⟨.agg #[.int .i64 (W : Int), .int .i64 ym], by
                have x75 := (ev_form a 75).trans (show a.eval (.tmp 75) = .int .i64 (W : Int) from (kn hp ha 75 2 (by kernel_rfl) (by kernel_rfl)).1)
                have x79 := (ev_form a 79).trans (show a.eval (.tmp 79) = .int .i64 ym from (kn hp ha 79 6 (by kernel_rfl) (by kernel_rfl)).1)
                go_simp, rfl, fun e => absurd e (by decide)⟩)
            · exact sb_new (F2B.lasts _ _) (by decide) (by decide) (fun l a w hp hu => ⟨(und hp (k := 8) (j := 9) (by kernel_rfl) hu), (und hp (k := 8) (j := 10) (by kernel_rfl) hu)⟩) rfl (fun l a V hp h1 hB ha => ⟨.slice (some ⟨V.heap.size, 0, none⟩) 1 1, .cells ((spC ((W : Int), ym))).toArray 57, by
                have x80 := (ev_form a 80).trans (show a.eval (.tmp 80) = .agg #[.int .i64 (W : Int), .int .i64 ym] from (kn hp ha 80 7 (by kernel_rfl) (by kernel_rfl)).1)
                go_simp <;> rfl, trivial, fun _ => ⟨V.heap.size, rfl, new_at V _ _⟩⟩)
            · refine sb_app (fun l a w hp hu => (und hp (k := 9) (j := 10) (by kernel_rfl) hu)) rfl (fun l a V hp h1 hB ha => ?_)
              have hv0 : a.eval (.tmp 73) = (.slice va vl vc) := (kn hp ha 73 0 (by kernel_rfl) (by kernel_rfl)).1
              obtain ⟨M1, hv1, hat⟩ := (kn hp ha 81 8 (by kernel_rfl) (by kernel_rfl)).2.1 h1 rfl
              obtain ⟨v', w', hr, h2, h3⟩ := run_app_one (x := ((W : Int), ym)) (by kernel_rfl : Tryz.prog.underlying 68 = some (.slice 57)) info57 rfl (by decide) (by decide) spC_len spC_one ((unhide HOT).later hB) hat (by have := unhide HAL; omega) (by have := hB.size; have := unhide HSZ; omega)
              refine ⟨v', w', ?_, ⟨h2, V, hB, h3⟩, trivial⟩
              unfold execOp
              simp only [resolve, invoke, builtin, Sem.run_bind, Sem.run_pure, Result.andThen_ok, List.map_toArray, List.map_cons, List.map_nil, hv0, hv1, hr]
            · refine sb_last (t := 82) rfl rfl (by kernel_rfl) (fun l a V hp => ?_) (fun _ => trivial)
              have x82 := ev_form a 82
              generalize a.eval (.tmp 82) = tv' at *
              go_simp
          case hf =>
            intro l a W1 hp hall
            have hv := (hp.good 10 _ 9 rfl rfl (hall 10 (by decide))).2.2 (.inr rfl)
            obtain ⟨us1, rfl, hus⟩ := putAll_of [73, 74, 75, 76, 77, 78, 79, 80, 81, 82, 9] hp.nt hp.df (fun t ht => hp.keep t (dstIn (by kernel_rfl) ht))
            obtain ⟨nv1, hnv⟩ : ∃ nv, us1 9 = nv := ⟨_, rfl⟩
            have HAP : Hid ((AP 57 2 spC X.heap.size wr (.slice va vl vc) (acc ++ [((W : Int), ym)])) nv1 W1) := hide (by rw [← hnv, hus 9]; exact hv)
            clear hp hall hus hv
            simp only [putAll, List.foldl, Act.put, List.setIfInBounds_toArray, List.set_cons_zero, List.set_cons_succ, hnv]
            clear hnv
            obtain ⟨ho2, hb2⟩ := (unhide HAP).below (unhide HOT) (.inr (unhide HSZ))
            have HR2 := hide ho2
            have HB2 := hide (show Below X.heap.size X W1 from ⟨hb2.os.trans (unhide HB).os, hb2.tape.trans (unhide HB).tape, hb2.output.trans (unhide HB).output, Nat.le_trans (unhide HB).size hb2.size, fun i hi => (hb2.block i hi).trans ((unhide HB).block i hi)⟩)
            clear ho2 hb2
            go_wp2_with fail
            go_roundw
            case rel => exact ⟨k + 1, by omega, by go_num, by rw [unhide HST, ← List.append_assoc, unhide HACC]; exact unhide HR2, unhide HB2⟩
            case measure => simp [intOf]; omega
        · have HST := hide (rdE_no (W := W) (H := H) hx (fun e => hh (hz.symm.trans e)))
          clear hot hb hx ha hvl hvc hz
          go_wp2_with fail
          go_roundw
          case rel => exact ⟨k + 1, by omega, by go_num, by rw [unhide HST]; exact unhide HOT, unhide HB⟩
          case measure => simp [intOf]; omega
      · obtain ⟨j, hj⟩ : ∃ j, k = n3 + j := ⟨k - n3, by omega⟩
        have hj4 : j < n4 := by omega
        obtain ⟨x, hx0⟩ : ∃ x, pc[j]? = some x := ⟨_, List.getElem?_eq_getElem (by rw [unhide HN4]; exact hj4)⟩
        have hx : es[k]? = some x := by rw [unhide HES, List.getElem?_append_right (by rw [unhide HN3]; omega), unhide HN3, show k - n3 = j by omega]; exact hx0
        obtain ⟨b, o, rfl, hc⟩ := unhide HP4 j x hx0
        have k0 := cell_later hb (cell_later (unhide HXB) hc)
        have i3 : ¬ (k : Int) < (n3 : Int) := by omega
        have i4 : (k : Int) - (n3 : Int) = (j : Int) := by omega
        have i5 : (j : Int) < (n4 : Int) := by omega
        have i6 : (0 : Int) ≤ (j : Int) := by omega
        clear hx0 hc hm h3 hj
        obtain ⟨z, hz⟩ : ∃ z, x.src = z := ⟨_, rfl⟩
        rw [hz] at k0
        by_cases hh : z = (s : Int)
        · have HST := hide (rdE_yes (W := W) (H := H) (a := ym) hx (hz.trans hh) ha)
          subst hh
          clear hot hb hx ha hvl hvc hz
          obtain ⟨acc, hacc⟩ : ∃ acc, acc0 ++ rdE W H (s : Int) es k = acc := ⟨_, rfl⟩
          have HACC := hide hacc
          rw [hacc] at HOT HAL
          clear hacc
          go_wp2_with fail
          refine wp_plan (GB (FRe2 W H g k vl vc va ym) (F2B 8 (spC ((W : Int), ym))) 9 (AP 57 2 spC X.heap.size wr (.slice va vl vc) (acc ++ [((W : Int), ym)]))) (JC wr 9) (by kernel_rfl) 84 (by kernel_rfl) (by kernel_rfl) ?hj ?hs ?hf
          case hj => exact fun _ => bdr (brf wr)
          case hs =>
            refine ⟨?_, ?_, ?_, ?_, ?_, ?_, ?_, ?_, ?_, ?_, ?_, trivial⟩
            · exact sb_val (by decide) (by decide) (fun l a w hp hu => ⟨(und hp (k := 0) (j := 9) (by kernel_rfl) hu), (und hp (k := 0) (j := 10) (by kernel_rfl) hu)⟩) rfl (fun l a V hp h1 hB ha => ⟨.slice va vl vc, by
                have x9 := (ev_form a 9).trans (show a.eval (.tmp 9) = .slice va vl vc from (hp.fresh 10 _ 9 rfl rfl h1).trans (by kernel_rfl))
                go_simp, rfl, fun e => absurd e (by decide)⟩)
            · exact sb_val (by decide) (by decide) (fun l a w hp hu => ⟨(und hp (k := 8) (j := 9) (by kernel_rfl) (und hp (k := 7) (j := 8) (by kernel_rfl) (und hp (k := 2) (j := 7) (by kernel_rfl) (und hp (k := 1) (j := 2) (by kernel_rfl) hu)))), (und hp (k := 1) (j := 10) (by kernel_rfl) hu)⟩) rfl (fun l a V hp h1 hB ha => ⟨.pointer (some ⟨g + 1, 0, none⟩), by
                have x5 := (ev_form a 5).trans (old hp 5 (v := .pointer (some ⟨g + 1, 0, none⟩)) (by kernel_rfl) (by kernel_rfl))
                go_simp, rfl, fun e => absurd e (by decide)⟩)
            · exact sb_val (by decide) (by decide) (fun l a w hp hu => ⟨(und hp (k := 8) (j := 9) (by kernel_rfl) (und hp (k := 7) (j := 8) (by kernel_rfl) (und hp (k := 2) (j := 7) (by kernel_rfl) hu))), (und hp (k := 2) (j := 10) (by kernel_rfl) hu)⟩) rfl (fun l a V hp h1 hB ha => ⟨.int .i64 (W : Int), by
                have x74 := (ev_form a 74).trans (show a.eval (.tmp 74) = .pointer (some ⟨g + 1, 0, none⟩) from (kn hp ha 74 1 (by kernel_rfl) (by kernel_rfl)).1)
                obtain ⟨k0, k1, k2, k3⟩ := unhide HCC V (btr (unhide HB) hB)
                go_simp, rfl, fun e => absurd e (by decide)⟩)
            · exact sb_val (by decide) (by decide) (fun l a w hp hu => ⟨(und hp (k := 8) (j := 9) (by kernel_rfl) (und hp (k := 7) (j := 8) (by kernel_rfl) (und hp (k := 6) (j := 7) (by kernel_rfl) (und hp (k := 3) (j := 6) (by kernel_rfl) hu)))), (und hp (k := 3) (j := 10) (by kernel_rfl) hu)⟩) rfl (fun l a V hp h1 hB ha => ⟨.int .i64 (k : Int), by
                have x11 := (ev_form a 11).trans (old hp 11 (v := .int .i64 (k : Int)) (by kernel_rfl) (by kernel_rfl))
                go_simp, rfl, fun e => absurd e (by decide)⟩)
            · exact sb_val (by decide) (by decide) (fun l a w hp hu => ⟨(und hp (k := 8) (j := 9) (by kernel_rfl) (und hp (k := 7) (j := 8) (by kernel_rfl) (und hp (k := 6) (j := 7) (by kernel_rfl) (und hp (k := 5) (j := 6) (by kernel_rfl) (und hp (k := 4) (j := 5) (by kernel_rfl) hu))))), (und hp (k := 4) (j := 10) (by kernel_rfl) hu)⟩) rfl (fun l a V hp h1 hB ha => ⟨.pointer (some ⟨g + 1, 1, none⟩), by
                have x5 := (ev_form a 5).trans (old hp 5 (v := .pointer (some ⟨g + 1, 0, none⟩)) (by kernel_rfl) (by kernel_rfl))
                go_simp, rfl, fun e => absurd e (by decide)⟩)
            · exact sb_val (by decide) (by decide) (fun l a w hp hu => ⟨(und hp (k := 8) (j := 9) (by kernel_rfl) (und hp (k := 7) (j := 8) (by kernel_rfl) (und hp (k := 6) (j := 7) (by kernel_rfl) (und hp (k := 5) (j := 6) (by kernel_rfl) hu)))), (und hp (k := 5) (j := 10) (by kernel_rfl) hu)⟩) rfl (fun l a V hp h1 hB ha => ⟨.int .i64 (H : Int), by
                have x77 := (ev_form a 77).trans (show a.eval (.tmp 77) = .pointer (some ⟨g + 1, 1, none⟩) from (kn hp ha 77 4 (by kernel_rfl) (by kernel_rfl)).1)
                obtain ⟨k0, k1, k2, k3⟩ := unhide HCC V (btr (unhide HB) hB)
                go_simp, rfl, fun e => absurd e (by decide)⟩)
            · exact sb_val (by decide) (by decide) (fun l a w hp hu => ⟨(und hp (k := 8) (j := 9) (by kernel_rfl) (und hp (k := 7) (j := 8) (by kernel_rfl) (und hp (k := 6) (j := 7) (by kernel_rfl) hu))), (und hp (k := 6) (j := 10) (by kernel_rfl) hu)⟩) rfl (fun l a V hp h1 hB ha => ⟨.int .i64 ym, by
                have x76 := (ev_form a 76).trans (show a.eval (.tmp 76) = .int .i64 (k : Int) from (kn hp ha 76 3 (by kernel_rfl) (by kernel_rfl)).1)
                have x78 := (ev_form a 78).trans (show a.eval (.tmp 78) = .int .i64 (H : Int) from (kn hp ha 78 5 (by kernel_rfl) (by kernel_rfl)).1)
                have hz := unhide HZ; have ha := unhide HA
                go_simp, rfl, fun e => absurd e (by decide)⟩)
            · exact sb_val (by decide) (by decide) (fun l a w hp hu => ⟨(und hp (k := 8) (j := 9) (by kernel_rfl) (und hp (k := 7) (j := 8) (by kernel_rfl) hu)), (und hp (k := 7) (j := 10) (by kernel_rfl) hu)⟩) rfl (fun l a V hp h1 hB ha => ⟨.agg #[.int .i64 (W : Int), .int .i64 ym], by
                have x75 := (ev_form a 75).trans (show a.eval (.tmp 75) = .int .i64 (W : Int) from (kn hp ha 75 2 (by kernel_rfl) (by kernel_rfl)).1)
                have x79 := (ev_form a 79).trans (show a.eval (.tmp 79) = .int .i64 ym from (kn hp ha 79 6 (by kernel_rfl) (by kernel_rfl)).1)
                go_simp, rfl, fun e => absurd e (by decide)⟩)
            · exact sb_new (F2B.lasts _ _) (by decide) (by decide) (fun l a w hp hu => ⟨(und hp (k := 8) (j := 9) (by kernel_rfl) hu), (und hp (k := 8) (j := 10) (by kernel_rfl) hu)⟩) rfl (fun l a V hp h1 hB ha => ⟨.slice (some ⟨V.heap.size, 0, none⟩) 1 1, .cells ((spC ((W : Int), ym))).toArray 57, by
                have x80 := (ev_form a 80).trans (show a.eval (.tmp 80) = .agg #[.int .i64 (W : Int), .int .i64 ym] from (kn hp ha 80 7 (by kernel_rfl) (by kernel_rfl)).1)
                go_simp <;> rfl, trivial, fun _ => ⟨V.heap.size, rfl, new_at V _ _⟩⟩)
            · refine sb_app (fun l a w hp hu => (und hp (k := 9) (j := 10) (by kernel_rfl) hu)) rfl (fun l a V hp h1 hB ha => ?_)
              have hv0 : a.eval (.tmp 73) = (.slice va vl vc) := (kn hp ha 73 0 (by kernel_rfl) (by kernel_rfl)).1
              obtain ⟨M1, hv1, hat⟩ := (kn hp ha 81 8 (by kernel_rfl) (by kernel_rfl)).2.1 h1 rfl
              obtain ⟨v', w', hr, h2, h3⟩ := run_app_one (x := ((W : Int), ym)) (by kernel_rfl : Tryz.prog.underlying 68 = some (.slice 57)) info57 rfl (by decide) (by decide) spC_len spC_one ((unhide HOT).later hB) hat (by have := unhide HAL; omega) (by have := hB.size; have := unhide HSZ; omega)
              refine ⟨v', w', ?_, ⟨h2, V, hB, h3⟩, trivial⟩
              unfold execOp
              simp only [resolve, invoke, builtin, Sem.run_bind, Sem.run_pure, Result.andThen_ok, List.map_toArray, List.map_cons, List.map_nil, hv0, hv1, hr]
            · refine sb_last (t := 82) rfl rfl (by kernel_rfl) (fun l a V hp => ?_) (fun _ => trivial)
              have x82 := ev_form a 82
              generalize a.eval (.tmp 82) = tv' at *
              go_simp
          case hf =>
            intro l a W1 hp hall
            have hv := (hp.good 10 _ 9 rfl rfl (hall 10 (by decide))).2.2 (.inr rfl)
            obtain ⟨us1, rfl, hus⟩ := putAll_of [73, 74, 75, 76, 77, 78, 79, 80, 81, 82, 9] hp.nt hp.df (fun t ht => hp.keep t (dstIn (by kernel_rfl) ht))
            obtain ⟨nv1, hnv⟩ : ∃ nv, us1 9 = nv := ⟨_, rfl⟩
            have HAP : Hid ((AP 57 2 spC X.heap.size wr (.slice va vl vc) (acc ++ [((W : Int), ym)])) nv1 W1) := hide (by rw [← hnv, hus 9]; exact hv)
            clear hp hall hus hv
            simp only [putAll, List.foldl, Act.put, List.setIfInBounds_toArray, List.set_cons_zero, List.set_cons_succ, hnv]
            clear hnv
            obtain ⟨ho2, hb2⟩ := (unhide HAP).below (unhide HOT) (.inr (unhide HSZ))
            have HR2 := hide ho2
            have HB2 := hide (show Below X.heap.size X W1 from ⟨hb2.os.trans (unhide HB).os, hb2.tape.trans (unhide HB).tape, hb2.output.trans (unhide HB).output, Nat.le_trans (unhide HB).size hb2.size, fun i hi => (hb2.block i hi).trans ((unhide HB).block i hi)⟩)
            clear ho2 hb2
            go_wp2_with fail
            go_roundw
            case rel => exact ⟨k + 1, by omega, by go_num, by rw [unhide HST, ← List.append_assoc, unhide HACC]; exact unhide HR2, unhide HB2⟩
            case measure => simp [intOf]; omega
        · have HST := hide (rdE_no (W := W) (H := H) hx (fun e => hh (hz.symm.trans e)))
          clear hot hb hx ha hvl hvc hz
          go_wp2_with fail
          go_roundw
          case rel => exact ⟨k + 1, by omega, by go_num, by rw [unhide HST]; exact unhide HOT, unhide HB⟩
          case measure => simp [intOf]; omega
    · obtain rfl : k = m := by omega
      have HOT := hide hot
      clear hot hb hm
      go_wp2_with fail
      exact unhide HQ0 _ _ _ _ _ _ _ _ _ _ _ _ _ _ _ _ _ _ _ _ _ _ _ _ _ _ _ _ _ _ _ _ _ _ _ _ _ _ _ _ _ _ _ _ _ _ _ wr u9 (unhide HOT) (unhide HB)
end Go.Proofs.YtlldfaniddbjaaaGreatDoor
