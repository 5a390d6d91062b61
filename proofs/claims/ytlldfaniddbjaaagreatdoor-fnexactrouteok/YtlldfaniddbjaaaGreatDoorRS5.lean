/- Where what reads a source stands: the loop over the blocks. -/
import Derived.Test.YtlldfaniddbjaaaGreatDoorGRS4
import Derived.Test.YtlldfaniddbjaaaGreatDoorGRP
import Derived.Test.YtlldfaniddbjaaaGreatDoorSN1
namespace Go.Proofs.YtlldfaniddbjaaaGreatDoor
open Go Go.RowKit Gs
set_option linter.unusedVariables false
set_option linter.unusedSimpArgs false
set_option maxRecDepth 100000
set_option maxHeartbeats 16000000
/-- The places of the first blocks that read a source. -/
def rdB (W : Nat) (s : Int) (bs : List Block) (ts : List Int) : Nat → List (Int × Int)
  | 0 => []
  | k + 1 => rdB W s bs ts k ++ (match bs[k]? with | some b => if hasB b.inp s = true then [tileP W (ts.getD k 0)] else [] | none => [])
theorem rdB_yes {W : Nat} {s q : Int} {bs : List Block} {ts : List Int} {k : Nat} {b : Block} (h : bs[k]? = some b) (hq : ts[k]? = some q) (hb : hasB b.inp s = true) : rdB W s bs ts (k + 1) = rdB W s bs ts k ++ [tileP W q] := by
  rw [rdB, h]
  simp only [if_pos hb, List.getD_eq_getElem?_getD, hq, Option.getD_some]
theorem rdB_no {W : Nat} {s : Int} {bs : List Block} {ts : List Int} {k : Nat} {b : Block} (h : bs[k]? = some b) (hb : hasB b.inp s = false) : rdB W s bs ts (k + 1) = rdB W s bs ts k := by
  rw [rdB, h]
  simp only [hb, Bool.false_eq_true, if_false, List.append_nil]
theorem rdB_len (W : Nat) (s : Int) (bs : List Block) (ts : List Int) : ∀ k, (rdB W s bs ts k).length ≤ k
  | 0 => by simp [rdB]
  | k + 1 => by
    have := rdB_len W s bs ts k
    rw [rdB, List.length_append]
    split
    · split <;> simp <;> omega
    · simp; omega
/-- What lies in memory of a block: its sources. -/
theorem block_in {w : World} {bs : List Block} {s : Option Addr} {n c : Nat} (h : RS 6 RBlock w 0 bs (.slice s n c)) : ∀ (i : Nat) x, bs[i]? = some x → ∃ b o v1, s = some ⟨b, o, none⟩ ∧ w.cell? ⟨b, o + i * 6 + 1, none⟩ = some v1 ∧ RS 1 RInt w 0 x.inp v1 := by
  intro i x hx
  rcases h.open with ⟨rfl, _⟩ | ⟨b, o, c', hv, _, _, _, he⟩
  · simp at hx
  · injection hv with e1 e2 e3
    obtain ⟨u, hu, hat, v1, rfl, hnm, hr⟩ := he i x hx
    exact ⟨b, o, v1, e1, hat 1 _ rfl, hr⟩
def FRd (W H T P tb to N ct k vl vc : Nat) (va : Option Addr) (q : Int) : Nat → Value → Prop
  | 0, v => v = .slice va vl vc
  | 1, v => v = .agg #[.int .i64 (W : Int), .int .i64 (H : Int), .int .i64 (T : Int), .int .i64 (P : Int)]
  | 2, v => v = .slice (some ⟨tb, to, none⟩) N ct
  | 3, v => v = .int .i64 (k : Int)
  | 4, v => v = .pointer (some ⟨tb, to + k, none⟩)
  | 5, v => v = .int .i64 q
  | 6, v => v = .agg #[.int .i64 (tileP W q).1, .int .i64 (tileP W q).2]
  | 7, v => True
  | 8, v => True
  | 9, v => True
  | _, _ => True

theorem rdL1 {u0 u1 u6 u7 u8 u11 u12 u13 u14 u15 u16 u17 u18 u19 u20 u21 u22 u23 u24 u25 u26 u27 u28 u29 u30 u31 u32 u33 u34 u35 u36 u37 u38 u39 u40 u41 u42 u43 u44 u45 u46 u47 u48 u49 u50 u51 u52 u53 u54 u55 u56 u57 u58 u59 u60 u61 u62 u63 u64 u65 u66 u67 u68 u69 u70 u71 u72 u73 u74 u75 u76 u77 u78 u79 u80 u81 u82 u83 : Value} {W H T P g s n2 c2 N ct : Nat} {s2 sT : Option Addr} {v0 : Value} {bs : List Block} {ts : List Int} {w X V0 : World} {Q : Exit → Act → World → Prop} (hW : W ≤ 8) (hW1 : 1 ≤ W) (hn : bs.length = n2) (hn2 : n2 ≤ 64) (hN : ts.length = n2) (hs : s ≤ 2097152) (hin : ∀ b ∈ bs, b.inp.length ≤ 1048576) (HXB : Hid (Below w.heap.size w X))
    (HBS : Hid (∀ (i : Nat) x, bs[i]? = some x → ∃ b o v1, s2 = some ⟨b, o, none⟩ ∧ w.cell? ⟨b, o + i * 6 + 1, none⟩ = some v1 ∧ RS 1 RInt w 0 x.inp v1)) (HTS : Hid (∀ (i : Nat) q, ts[i]? = some q → ∃ tb to, sT = some ⟨tb, to, none⟩ ∧ w.cell? ⟨tb, to + i, none⟩ = some (.int .i64 q) ∧ 0 ≤ q ∧ q ≤ 64)) (hNN : N = n2)
    (HCP : Hid (∀ V, Below X.heap.size X V → V.cell? ⟨g, 2, none⟩ = some (.slice s2 n2 c2)))
    (HCC : Hid (∀ V, Below X.heap.size X V → V.cell? ⟨g + 1, 0, none⟩ = some (.int .i64 (W : Int)) ∧ V.cell? ⟨g + 1, 1, none⟩ = some (.int .i64 (H : Int)) ∧ V.cell? ⟨g + 1, 2, none⟩ = some (.int .i64 (T : Int)) ∧ V.cell? ⟨g + 1, 3, none⟩ = some (.int .i64 (P : Int))))
    (HO : Hid (OW 57 2 spC X.heap.size V0 v0 [])) (HB0 : Hid (Below X.heap.size X V0))
    (hQ : ∀ (z10 z14 z15 z16 z17 z18 z19 z20 z21 z22 z23 z24 z25 z26 z27 z28 z29 z30 z31 z32 z33 z34 z35 z36 z37 : Value) V v, OW 57 2 spC X.heap.size V v (rdB W s bs ts n2) → Below X.heap.size X V → Q (.exit 0) { tmps := (u0 :: u1 :: .slice sT N ct :: .int .i64 (s : Int) :: .pointer (some ⟨g, 0, none⟩) :: .pointer (some ⟨g + 1, 0, none⟩) :: u6 :: u7 :: u8 :: v :: z10 :: u11 :: u12 :: u13 :: z14 :: z15 :: z16 :: z17 :: z18 :: z19 :: z20 :: z21 :: z22 :: z23 :: z24 :: z25 :: z26 :: z27 :: z28 :: z29 :: z30 :: z31 :: z32 :: z33 :: z34 :: z35 :: z36 :: z37 :: u38 :: u39 :: u40 :: u41 :: u42 :: u43 :: u44 :: u45 :: u46 :: u47 :: u48 :: u49 :: u50 :: u51 :: u52 :: u53 :: u54 :: u55 :: u56 :: u57 :: u58 :: u59 :: u60 :: u61 :: u62 :: u63 :: u64 :: u65 :: u66 :: u67 :: u68 :: u69 :: u70 :: u71 :: u72 :: u73 :: u74 :: u75 :: u76 :: u77 :: u78 :: u79 :: u80 :: u81 :: u82 :: u83 :: []).toArray, defers := [] } V) :
    Code.wp Tryz.prog (atB 0 (bodyOf Tryz.f48)) Q { tmps := (u0 :: u1 :: .slice sT N ct :: .int .i64 (s : Int) :: .pointer (some ⟨g, 0, none⟩) :: .pointer (some ⟨g + 1, 0, none⟩) :: u6 :: u7 :: u8 :: v0 :: .int .i64 0 :: u11 :: u12 :: u13 :: u14 :: u15 :: u16 :: u17 :: u18 :: u19 :: u20 :: u21 :: u22 :: u23 :: u24 :: u25 :: u26 :: u27 :: u28 :: u29 :: u30 :: u31 :: u32 :: u33 :: u34 :: u35 :: u36 :: u37 :: u38 :: u39 :: u40 :: u41 :: u42 :: u43 :: u44 :: u45 :: u46 :: u47 :: u48 :: u49 :: u50 :: u51 :: u52 :: u53 :: u54 :: u55 :: u56 :: u57 :: u58 :: u59 :: u60 :: u61 :: u62 :: u63 :: u64 :: u65 :: u66 :: u67 :: u68 :: u69 :: u70 :: u71 :: u72 :: u73 :: u74 :: u75 :: u76 :: u77 :: u78 :: u79 :: u80 :: u81 :: u82 :: u83 :: []).toArray, defers := [] } V0 := by
  subst hNN
  have HQ0 := hide hQ
  have HN := hide hn
  have HN2 := hide hN
  have HIN := hide hin
  clear hQ hn hN hin
  conv => arg 2; whnf
  go_loopw [9, 10] (fun v i wr => ∃ k : Nat, k ≤ N ∧ i = .int .i64 k ∧ OW 57 2 spC X.heap.size wr v (rdB W s bs ts k) ∧ Below X.heap.size X wr) (fun _ i wr => N - (intOf i).toNat)
  case atStart => exact ⟨0, Nat.zero_le _, rfl, unhide HO, unhide HB0⟩
  case round =>
    obtain ⟨k, hk, rfl, hot, hb⟩ := hrel
    have q0 := unhide HCP wr hb
    have HB := hide hb
    have HSZ := hide hb.size
    by_cases hlt : k < N
    · have hx : bs[k]? = some (bs[k]'(by rw [unhide HN]; exact hlt)) := List.getElem?_eq_getElem _
      generalize bs[k]'(by rw [unhide HN]; exact hlt) = x at hx
      have hq : ts[k]? = some (ts[k]'(by rw [unhide HN2]; exact hlt)) := List.getElem?_eq_getElem _
      generalize ts[k]'(by rw [unhide HN2]; exact hlt) = q at hq
      obtain ⟨b, o, v1, rfl, hc, hr1⟩ := unhide HBS k x hx
      obtain ⟨tb, to, rfl, hqc, hq1⟩ := unhide HTS k q hq
      have k0 := cell_later hb (cell_later (unhide HXB) hc)
      have HQ := hide (cell_later hb (cell_later (unhide HXB) hqc))
      have HQ1 := hide hq1
      have HR1 := hide ((hr1.later RInt.keeps (unhide HXB)).later RInt.keeps hb)
      have HIL := hide (unhide HIN x (List.mem_of_getElem? hx))
      have HAL := hide (rdB_len W s bs ts k)
      obtain ⟨va, vc, hvs, hvc⟩ := hot.slice
      obtain ⟨vl, hvl⟩ : ∃ vl, (rdB W s bs ts k).length = vl := ⟨_, rfl⟩
      rw [hvl] at hvs
      subst hvs
      have HOT := hide hot
      have i2 : (k : Int) < (N : Int) := by omega
      have i1 : (0 : Int) ≤ (k : Int) := by omega
      obtain ⟨c1, l1, rfl⟩ := hr1.slice
      have HHB := hide (fun V (hV : RS 1 RInt V 0 x.inp (.slice c1 x.inp.length l1)) => sHasI x.inp s (.slice c1 x.inp.length l1) V (unhide HIL) hV)
      by_cases hh : hasB x.inp s = true
      · have HST := hide (rdB_yes (W := W) hx hq hh)
        rw [hh] at HHB
        clear hot hb hc hx hq hqc hq1 hr1 hvl hvc hh
        generalize rdB W s bs ts k = acc at *
        go_wp2_with fail
        refine (unhide HHB wr (unhide HR1)).mono ?_
        rintro e w1 ⟨rfl, hw⟩
        have hw' := hw.symm
        subst hw'
        go_wp2_with fail
        refine wp_plan (GB (FRd W H T P tb to N ct k vl vc va q) (F2B 7 (spC (tileP W q))) 8 (AP 57 2 spC X.heap.size wr (.slice va vl vc) (acc ++ [tileP W q]))) (JC wr 8) (by kernel_rfl) 84 (by kernel_rfl) (by kernel_rfl) ?hj ?hs ?hf
        case hj => exact fun _ => bdr (brf wr)
        case hs =>
          refine ⟨?_, ?_, ?_, ?_, ?_, ?_, ?_, ?_, ?_, ?_, trivial⟩
          · exact sb_val (by decide) (by decide) (fun l a w hp hu => ⟨(und hp (k := 0) (j := 8) (by kernel_rfl) hu), (und hp (k := 0) (j := 9) (by kernel_rfl) hu)⟩) rfl (fun l a V hp h1 hB ha => ⟨.slice va vl vc, by
              have x9 := (ev_form a 9).trans (show a.eval (.tmp 9) = .slice va vl vc from (hp.fresh 9 _ 9 rfl rfl h1).trans (by kernel_rfl))
              go_simp, rfl, fun e => absurd e (by decide)⟩)
          · exact sb_val (by decide) (by decide) (fun l a w hp hu => ⟨(und hp (k := 6) (j := 8) (by kernel_rfl) (und hp (k := 1) (j := 6) (by kernel_rfl) hu)), (und hp (k := 1) (j := 9) (by kernel_rfl) hu)⟩) rfl (fun l a V hp h1 hB ha => ⟨.agg #[.int .i64 (W : Int), .int .i64 (H : Int), .int .i64 (T : Int), .int .i64 (P : Int)], by
              have x5 := (ev_form a 5).trans (old hp 5 (v := .pointer (some ⟨g + 1, 0, none⟩)) (by kernel_rfl) (by kernel_rfl))
              obtain ⟨k0, k1, k2, k3⟩ := unhide HCC V (btr (unhide HB) hB)
              go_simp, rfl, fun e => absurd e (by decide)⟩)
          · exact sb_val (by decide) (by decide) (fun l a w hp hu => ⟨(und hp (k := 6) (j := 8) (by kernel_rfl) (und hp (k := 5) (j := 6) (by kernel_rfl) (und hp (k := 4) (j := 5) (by kernel_rfl) (und hp (k := 2) (j := 4) (by kernel_rfl) hu)))), (und hp (k := 2) (j := 9) (by kernel_rfl) hu)⟩) rfl (fun l a V hp h1 hB ha => ⟨.slice (some ⟨tb, to, none⟩) N ct, by
              have x2 := (ev_form a 2).trans (old hp 2 (v := .slice (some ⟨tb, to, none⟩) N ct) (by kernel_rfl) (by kernel_rfl))
              go_simp, rfl, fun e => absurd e (by decide)⟩)
          · exact sb_val (by decide) (by decide) (fun l a w hp hu => ⟨(und hp (k := 6) (j := 8) (by kernel_rfl) (und hp (k := 5) (j := 6) (by kernel_rfl) (und hp (k := 4) (j := 5) (by kernel_rfl) (und hp (k := 3) (j := 4) (by kernel_rfl) hu)))), (und hp (k := 3) (j := 9) (by kernel_rfl) hu)⟩) rfl (fun l a V hp h1 hB ha => ⟨.int .i64 (k : Int), by
              have x10 := (ev_form a 10).trans (old hp 10 (v := .int .i64 (k : Int)) (by kernel_rfl) (by kernel_rfl))
              go_simp, rfl, fun e => absurd e (by decide)⟩)
          · exact sb_val (by decide) (by decide) (fun l a w hp hu => ⟨(und hp (k := 6) (j := 8) (by kernel_rfl) (und hp (k := 5) (j := 6) (by kernel_rfl) (und hp (k := 4) (j := 5) (by kernel_rfl) hu))), (und hp (k := 4) (j := 9) (by kernel_rfl) hu)⟩) rfl (fun l a V hp h1 hB ha => ⟨.pointer (some ⟨tb, to + k, none⟩), by
              have x31 := (ev_form a 31).trans (show a.eval (.tmp 31) = .slice (some ⟨tb, to, none⟩) N ct from (kn hp ha 31 2 (by kernel_rfl) (by kernel_rfl)).1)
              have x32 := (ev_form a 32).trans (show a.eval (.tmp 32) = .int .i64 (k : Int) from (kn hp ha 32 3 (by kernel_rfl) (by kernel_rfl)).1)
              go_simp, rfl, fun e => absurd e (by decide)⟩)
          · exact sb_val (by decide) (by decide) (fun l a w hp hu => ⟨(und hp (k := 6) (j := 8) (by kernel_rfl) (und hp (k := 5) (j := 6) (by kernel_rfl) hu)), (und hp (k := 5) (j := 9) (by kernel_rfl) hu)⟩) rfl (fun l a V hp h1 hB ha => ⟨.int .i64 q, by
              have x33 := (ev_form a 33).trans (show a.eval (.tmp 33) = .pointer (some ⟨tb, to + k, none⟩) from (kn hp ha 33 4 (by kernel_rfl) (by kernel_rfl)).1)
              have k0 := cell_later hB (unhide HQ)
              go_simp, rfl, fun e => absurd e (by decide)⟩)
          · exact sb_call (f := 47) (F2B.lasts _ _) (by decide) (by decide) (fun l a w hp hu => ⟨(und hp (k := 6) (j := 8) (by kernel_rfl) hu), (und hp (k := 6) (j := 9) (by kernel_rfl) hu)⟩) rfl (fun l a V hp h1 hB ha => ⟨#[.agg #[.int .i64 (W : Int), .int .i64 (H : Int), .int .i64 (T : Int), .int .i64 (P : Int)], .int .i64 q], by
              have x30 := (ev_form a 30).trans (show a.eval (.tmp 30) = .agg #[.int .i64 (W : Int), .int .i64 (H : Int), .int .i64 (T : Int), .int .i64 (P : Int)] from (kn hp ha 30 1 (by kernel_rfl) (by kernel_rfl)).1)
              have x34 := (ev_form a 34).trans (show a.eval (.tmp 34) = .int .i64 q from (kn hp ha 34 5 (by kernel_rfl) (by kernel_rfl)).1)
              go_simp, (sTile W H T P q V hW hW1 (unhide HQ1)).mono (by rintro e V1 ⟨rfl, hb⟩; exact ⟨_, rfl, rfl, fun e => absurd e (by decide), hb⟩)⟩)
          · exact sb_new (F2B.lasts _ _) (by decide) (by decide) (fun l a w hp hu => ⟨(und hp (k := 7) (j := 8) (by kernel_rfl) hu), (und hp (k := 7) (j := 9) (by kernel_rfl) hu)⟩) rfl (fun l a V hp h1 hB ha => ⟨.slice (some ⟨V.heap.size, 0, none⟩) 1 1, .cells ((spC (tileP W q))).toArray 57, by
              have x35 := (ev_form a 35).trans (show a.eval (.tmp 35) = .agg #[.int .i64 (tileP W q).1, .int .i64 (tileP W q).2] from (kn hp ha 35 6 (by kernel_rfl) (by kernel_rfl)).1)
              go_simp <;> rfl, trivial, fun _ => ⟨V.heap.size, rfl, new_at V _ _⟩⟩)
          · refine sb_app (fun l a w hp hu => (und hp (k := 8) (j := 9) (by kernel_rfl) hu)) rfl (fun l a V hp h1 hB ha => ?_)
            have hv0 : a.eval (.tmp 29) = (.slice va vl vc) := (kn hp ha 29 0 (by kernel_rfl) (by kernel_rfl)).1
            obtain ⟨M1, hv1, hat⟩ := (kn hp ha 36 7 (by kernel_rfl) (by kernel_rfl)).2.1 h1 rfl
            obtain ⟨v', w', hr, h2, h3⟩ := run_app_one (x := tileP W q) (by kernel_rfl : Tryz.prog.underlying 68 = some (.slice 57)) info57 rfl (by decide) (by decide) spC_len spC_one ((unhide HOT).later hB) hat (by have := unhide HAL; omega) (by have := hB.size; have := unhide HSZ; omega)
            refine ⟨v', w', ?_, ⟨h2, V, hB, h3⟩, trivial⟩
            unfold execOp
            simp only [resolve, invoke, builtin, Sem.run_bind, Sem.run_pure, Result.andThen_ok, List.map_toArray, List.map_cons, List.map_nil, hv0, hv1, hr]
          · refine sb_last (t := 37) rfl rfl (by kernel_rfl) (fun l a V hp => ?_) (fun _ => trivial)
            have x37 := ev_form a 37
            generalize a.eval (.tmp 37) = tv' at *
            go_simp
        case hf =>
          intro l a W1 hp hall
          have hv := (hp.good 9 _ 9 rfl rfl (hall 9 (by decide))).2.2 (.inr rfl)
          obtain ⟨us1, rfl, hus⟩ := putAll_of [29, 30, 31, 32, 33, 34, 35, 36, 37, 9] hp.nt hp.df (fun t ht => hp.keep t (dstIn (by kernel_rfl) ht))
          obtain ⟨nv1, hnv⟩ : ∃ nv, us1 9 = nv := ⟨_, rfl⟩
          have HAP : Hid ((AP 57 2 spC X.heap.size wr (.slice va vl vc) (acc ++ [tileP W q])) nv1 W1) := hide (by rw [← hnv, hus 9]; exact hv)
          clear hp hall hus hv
          simp only [putAll, List.foldl, Act.put, List.setIfInBounds_toArray, List.set_cons_zero, List.set_cons_succ, hnv]
          clear hnv
          obtain ⟨ho2, hb2⟩ := (unhide HAP).below (unhide HOT) (.inr (unhide HSZ))
          have HR2 := hide ho2
          have HB2 := hide (show Below X.heap.size X W1 from ⟨hb2.os.trans (unhide HB).os, hb2.tape.trans (unhide HB).tape, hb2.output.trans (unhide HB).output, Nat.le_trans (unhide HB).size hb2.size, fun i hi => (hb2.block i hi).trans ((unhide HB).block i hi)⟩)
          clear ho2 hb2
          go_wp2_with fail
          go_roundw
          case rel => exact ⟨k + 1, by omega, by go_num, by rw [unhide HST]; exact unhide HR2, unhide HB2⟩
          case measure => simp [intOf]; omega
      · have hh' : hasB x.inp s = false := by simpa using hh
        have HST := hide (rdB_no (W := W) (ts := ts) hx hh')
        rw [hh'] at HHB
        clear hot hb hc hx hq hqc hq1 hr1 hvl hvc hh hh'
        go_wp2_with fail
        refine (unhide HHB wr (unhide HR1)).mono ?_
        rintro e w1 ⟨rfl, hw⟩
        have hw' := hw.symm
        subst hw'
        go_wp2_with fail
        go_roundw
        case rel => exact ⟨k + 1, by omega, by go_num, by rw [unhide HST]; exact unhide HOT, unhide HB⟩
        case measure => simp [intOf]; omega
    · obtain rfl : k = N := by omega
      have HOT := hide hot
      clear hot hb
      go_wp2_with fail
      exact unhide HQ0 _ _ _ _ _ _ _ _ _ _ _ _ _ _ _ _ _ _ _ _ _ _ _ _ _ wr u9 (unhide HOT) (unhide HB)
end Go.Proofs.YtlldfaniddbjaaaGreatDoor
