/- The program's places. -/
import Derived.Test.YtlldfaniddbjaaaGreatDoorGRI2
import Derived.Test.YtlldfaniddbjaaaGreatDoorGRI7
namespace Go.Proofs.YtlldfaniddbjaaaGreatDoor
open Go Go.RowKit Gs
set_option linter.unusedVariables false
set_option linter.unusedSimpArgs false
set_option maxRecDepth 100000
set_option maxHeartbeats 16000000
def spI (H : Nat) : Nat → List (Int × Int)
  | 0 => []
  | k + 1 => spI H k ++ [(-1, (k : Int) % (H : Int))]
def spT (W : Nat) (ts : List Int) : Nat → List (Int × Int)
  | 0 => []
  | k + 1 => spT W ts k ++ (match ts[k]? with | some t => [tileP W t] | none => [])
def spE (W H : Nat) : Nat → List (Int × Int)
  | 0 => []
  | k + 1 => spE W H k ++ [((W : Int), (k : Int) % (H : Int))]
theorem spI_len (H : Nat) : ∀ k, (spI H k).length ≤ k
  | 0 => Nat.le_refl _
  | k + 1 => by rw [spI, List.length_append]; have := spI_len H k; simp; omega
theorem spE_len (W H : Nat) : ∀ k, (spE W H k).length ≤ k
  | 0 => Nat.le_refl _
  | k + 1 => by rw [spE, List.length_append]; have := spE_len W H k; simp; omega
theorem spT_len (W : Nat) (ts : List Int) : ∀ k, (spT W ts k).length ≤ k
  | 0 => Nat.le_refl _
  | k + 1 => by rw [spT, List.length_append]; have := spT_len W ts k; split <;> simp <;> omega
def FSp1 (W g vl vc : Nat) (va : Option Addr) (t r1 r2 : Int) : Nat → Value → Prop
  | 0, v => v = .slice va vl vc
  | 1, v => v = .int .i64 t
  | 2, v => v = .pointer (some ⟨g, 5, none⟩)
  | 3, v => v = .pointer (some ⟨g, 5, none⟩)
  | 4, v => v = .int .i64 (W : Int)
  | 5, v => v = .int .i64 r1
  | 6, v => v = .int .i64 t
  | 7, v => v = .pointer (some ⟨g, 5, none⟩)
  | 8, v => v = .pointer (some ⟨g, 5, none⟩)
  | 9, v => v = .int .i64 (W : Int)
  | 10, v => v = .int .i64 r2
  | 11, v => v = .agg #[.int .i64 r1, .int .i64 r2]
  | 12, v => True
  | 13, v => True
  | 14, v => True
  | _, _ => True
def FSp2 (W H g k vl vc : Nat) (va : Option Addr) (ym : Int) : Nat → Value → Prop
  | 0, v => v = .slice va vl vc
  | 1, v => v = .pointer (some ⟨g, 5, none⟩)
  | 2, v => v = .pointer (some ⟨g, 5, none⟩)
  | 3, v => v = .int .i64 (W : Int)
  | 4, v => v = .int .i64 (k : Int)
  | 5, v => v = .pointer (some ⟨g, 5, none⟩)
  | 6, v => v = .pointer (some ⟨g, 6, none⟩)
  | 7, v => v = .int .i64 (H : Int)
  | 8, v => v = .int .i64 ym
  | 9, v => v = .agg #[.int .i64 (W : Int), .int .i64 ym]
  | 10, v => True
  | 11, v => True
  | 12, v => True
  | _, _ => True
theorem iSpots {s0 s1 s2 s3 s4 tp : Option Addr} {l0 l1 l2 l3 l4 N c0 c1 c2 c3 c4 tc : Nat} (W H T P : Nat) (ts : List Int) (w : World) (hW : 1 ≤ W) (hH : 1 ≤ H) (hln : ts.length = N) (htot : l0 + N + (l3 + l4) ≤ 1048576) (hts : RS 1 RInt w 0 ts (.slice tp N tc)) (hin : ∀ t ∈ ts, 0 ≤ t ∧ t ≤ 2097152) :
    Calls Tryz.prog 59 #[.agg #[.slice s0 l0 c0, .slice s1 l1 c1, .slice s2 l2 c2, .slice s3 l3 c3, .slice s4 l4 c4, .int .i64 (W : Int), .int .i64 (H : Int), .int .i64 (T : Int), .int .i64 (P : Int)], .slice tp N tc] w fun e w' => (∃ v, e = .returned v ∧ ∃ B, OW 87 2 spC B w' v ((spI H l0 ++ spT W ts N) ++ spE W H (l3 + l4))) ∧ Below w.heap.size w w' := by
  have HNS := hide (tiles_at hts)
  have HIN := hide hin
  have HLN := hide hln
  have HTOT := hide htot
  obtain ⟨X, hX⟩ : ∃ X, X = w.alloc (.cells #[.slice s0 l0 c0, .slice s1 l1 c1, .slice s2 l2 c2, .slice s3 l3 c3, .slice s4 l4 c4, .int .i64 (W : Int), .int .i64 (H : Int), .int .i64 (T : Int), .int .i64 (P : Int)] 77) := ⟨_, rfl⟩
  have HXB := hide (show Below w.heap.size w X by rw [hX]; exact bal (brf w) _)
  have HFL : Hid (∀ V, Below X.heap.size X V → V.cell? ⟨w.heap.size, 0, none⟩ = some (.slice s0 l0 c0) ∧ V.cell? ⟨w.heap.size, 3, none⟩ = some (.slice s3 l3 c3) ∧ V.cell? ⟨w.heap.size, 4, none⟩ = some (.slice s4 l4 c4)) := hide (fun V hV => by
    rw [hX] at hV
    exact ⟨(new_cell hV rfl).1, (new_cell hV rfl).1, (new_cell hV rfl).1⟩)
  have HFC : Hid (∀ V, Below X.heap.size X V → V.cell? ⟨w.heap.size, 5, none⟩ = some (.int .i64 (W : Int)) ∧ V.cell? ⟨w.heap.size, 6, none⟩ = some (.int .i64 (H : Int))) := hide (fun V hV => by
    rw [hX] at hV
    exact ⟨(new_cell hV rfl).1, (new_cell hV rfl).1⟩)
  have HXX := hide hX
  obtain ⟨f0, f3, f4⟩ := unhide HFL X (brf _)
  rw [hX] at f0 f3 f4
  have q34 : (l3 : Int) + (l4 : Int) = ((l3 + l4 : Nat) : Int) := by omega
  obtain ⟨M, hM⟩ : ∃ M, l3 + l4 = M := ⟨_, rfl⟩
  rw [hM] at q34 htot ⊢
  have HM := hide hM
  clear hts hin hln hX hM
  go_enter Tryz.func59, Tryz.ntmps59
  go_wp2_with fail
  rw [← unhide HXX]
  clear f0 f3 f4
  go_loopw [5, 14] (fun v i wr => ∃ k : Nat, k ≤ l0 ∧ i = .int .i64 k ∧ OW 87 2 spC X.heap.size wr v (spI H k) ∧ Below X.heap.size X wr) (fun _ i _ => l0 - (intOf i).toNat)
  case atStart => exact ⟨0, Nat.zero_le _, rfl, OW.nil, brf _⟩
  case round =>
    obtain ⟨k, hk, rfl, hot, hb⟩ := hrel
    have HB := hide hb
    have HSZ := hide hb.size
    obtain ⟨f5, f6⟩ := unhide HFC wr hb
    by_cases hlt : k < l0
    · skip
      have HAL := hide (show (spI H k).length ≤ 4194303 by have := spI_len H k; have := unhide HTOT; omega)
      obtain ⟨va, vc, hvs, hvc⟩ := hot.slice
      obtain ⟨vl, hvl⟩ : ∃ vl, (spI H k).length = vl := ⟨_, rfl⟩
      rw [hvl] at hvs
      subst hvs
      have HOT := hide hot
      have hz0 : ¬ H = 0 := by omega
      obtain ⟨ym, ha⟩ : ∃ a, (k : Int) % (H : Int) = a := ⟨_, rfl⟩
      have ha2 : Int.tmod (k : Int) (H : Int) = ym := by rw [Int.tmod_eq_emod_of_nonneg (by omega), ha]
      have HST : Hid (spI H (k + 1) = spI H k ++ [(-1, ym)]) := hide (by rw [spI, ha])
      obtain ⟨acc, hacc⟩ : ∃ acc, spI H k = acc := ⟨_, rfl⟩
      have HACC := hide hacc
      rw [hacc] at HOT HAL
      clear hacc hot hb hvl hvc ha
      go_wp2_with (first
        | (at_builtin; refine wpAppOne spZ Tryz.underlying78 info87 rfl (by decide) (by decide) spC_len spC_one rfl _ _ rfl X.heap.size (.slice va vl vc) acc (-1, ym) wr.heap.size rfl ((unhide HOT).later (bal (brf _) _)) rfl (new_at wr (spC (-1, ym)) 87) (by have := unhide HAL; omega) (by have := unhide HSZ; simp; omega) ?_; intro v' w3 hown' hgrow)
        | fail)
      have HR2 := hide hown'
      have HB2 := hide (below_grown (bal (unhide HB) (.cells (spC (-1, ym)).toArray 87)) hgrow (by have := unhide HSZ; simp; omega) (unhide HOT).row)
      clear hown' hgrow
      go_roundw
      case rel => exact ⟨k + 1, by omega, by go_num, by rw [unhide HST, unhide HACC]; exact unhide HR2, unhide HB2⟩
      case measure => simp [intOf]; omega
    · obtain rfl : l0 = k := by omega
      have HO1 := hide hot
      have HB1 := hide hb
      clear hot hb f5 f6 HB HSZ
      go_wp2_with fail
      go_loopw [5, 29] (fun v i wr => ∃ j : Nat, j ≤ N ∧ i = .int .i64 j ∧ OW 87 2 spC X.heap.size wr v (spI H l0 ++ spT W ts j) ∧ Below X.heap.size X wr) (fun _ i _ => N - (intOf i).toNat)
      case atStart => exact ⟨0, Nat.zero_le _, rfl, by rw [spT, List.append_nil]; exact unhide HO1, unhide HB1⟩
      case round =>
        obtain ⟨k, hk, rfl, hot, hb⟩ := hrel
        have HB := hide hb
        have HSZ := hide hb.size
        by_cases hlt2 : k < N
        · skip
          have HAL := hide (show (spI H l0 ++ spT W ts k).length ≤ 4194303 by have := spI_len H l0; have := spT_len W ts k; have := unhide HTOT; rw [List.length_append]; omega)
          obtain ⟨va, vc, hvs, hvc⟩ := hot.slice
          obtain ⟨vl, hvl⟩ : ∃ vl, (spI H l0 ++ spT W ts k).length = vl := ⟨_, rfl⟩
          rw [hvl] at hvs
          subst hvs
          have HOT := hide hot
          have hz0 : ¬ W = 0 := by omega
          have HZ := hide hz0
          obtain ⟨t, hx⟩ : ∃ t, ts[k]? = some t := ⟨_, List.getElem?_eq_getElem (by rw [unhide HLN]; exact hlt2)⟩
          obtain ⟨ht0, ht1⟩ := unhide HIN t (List.mem_of_getElem? hx)
          obtain ⟨nb, no, rfl, hnc⟩ := unhide HNS k _ hx
          have n0 := cell_later hb (cell_later (unhide HXB) hnc)
          obtain ⟨r1, hr1⟩ : ∃ a, t % (W : Int) = a := ⟨_, rfl⟩
          obtain ⟨r2, hr2⟩ : ∃ a, t / (W : Int) = a := ⟨_, rfl⟩
          have HA1 : Hid (Int.tmod t (W : Int) = r1) := hide (by rw [Int.tmod_eq_emod_of_nonneg ht0, hr1])
          have HA2 : Hid (Int.tdiv t (W : Int) = r2) := hide (by rw [Int.tdiv_eq_ediv_of_nonneg ht0, hr2])
          have HA3 : Hid (0 ≤ r2 ∧ r2 ≤ 2097152) := hide (by rw [← hr2]; exact ⟨Int.ediv_nonneg ht0 (by omega), Int.le_trans (Int.ediv_le_self _ ht0) ht1⟩)
          have HST : Hid (spT W ts (k + 1) = spT W ts k ++ [(r1, r2)]) := hide (by rw [spT, hx]; simp only [tileP, hr1, hr2])
          have i1 : (0 : Int) ≤ (k : Int) := by omega
          have i2 : (k : Int) < (N : Int) := by omega
          obtain ⟨acc, hacc⟩ : ∃ acc, spI H l0 ++ spT W ts k = acc := ⟨_, rfl⟩
          have HACC := hide hacc
          rw [hacc] at HOT HAL
          clear hacc hot hb hvl hvc hz0 hx ht0 ht1 hnc hr1 hr2
          go_wp2_with fail
          refine wp_plan (GB (FSp1 W w.heap.size vl vc va t r1 r2) (F2B 12 (spC (r1, r2))) 13 (AP 87 2 spC X.heap.size wr (.slice va vl vc) (acc ++ [(r1, r2)]))) (JC wr 13) (by kernel_rfl) 74 (by kernel_rfl) (by kernel_rfl) ?hj ?hs ?hf
          case hj => exact fun _ => bdr (brf wr)
          case hs =>
            refine ⟨?_, ?_, ?_, ?_, ?_, ?_, ?_, ?_, ?_, ?_, ?_, ?_, ?_, ?_, ?_, trivial⟩
            · exact sb_val (by decide) (by decide) (fun l a w hp hu => ⟨(und hp (k := 0) (j := 13) (by kernel_rfl) hu), (und hp (k := 0) (j := 14) (by kernel_rfl) hu)⟩) rfl (fun l a V hp h1 hB ha => ⟨.slice va vl vc, by
                have x5 := (ev_form a 5).trans (show a.eval (.tmp 5) = .slice va vl vc from (hp.fresh 14 _ 5 rfl rfl h1).trans (by kernel_rfl))
                go_simp, rfl, fun e => absurd e (by decide)⟩)
            · exact sb_val (by decide) (by decide) (fun l a w hp hu => ⟨(und hp (k := 12) (j := 13) (by kernel_rfl) (und hp (k := 11) (j := 12) (by kernel_rfl) (und hp (k := 5) (j := 11) (by kernel_rfl) (und hp (k := 1) (j := 5) (by kernel_rfl) hu)))), (und hp (k := 1) (j := 14) (by kernel_rfl) hu)⟩) rfl (fun l a V hp h1 hB ha => ⟨.int .i64 t, by
                have x8 := (ev_form a 8).trans (old hp 8 (v := .int .i64 t) (by kernel_rfl) (by kernel_rfl))
                go_simp, rfl, fun e => absurd e (by decide)⟩)
            · exact sb_val (by decide) (by decide) (fun l a w hp hu => ⟨(und hp (k := 12) (j := 13) (by kernel_rfl) (und hp (k := 11) (j := 12) (by kernel_rfl) (und hp (k := 5) (j := 11) (by kernel_rfl) (und hp (k := 4) (j := 5) (by kernel_rfl) (und hp (k := 3) (j := 4) (by kernel_rfl) (und hp (k := 2) (j := 3) (by kernel_rfl) hu)))))), (und hp (k := 2) (j := 14) (by kernel_rfl) hu)⟩) rfl (fun l a V hp h1 hB ha => ⟨.pointer (some ⟨w.heap.size, 5, none⟩), by
                have x2 := (ev_form a 2).trans (old hp 2 (v := .pointer (some ⟨w.heap.size, 0, none⟩)) (by kernel_rfl) (by kernel_rfl))
                go_simp, rfl, fun e => absurd e (by decide)⟩)
            · exact sb_val (by decide) (by decide) (fun l a w hp hu => ⟨(und hp (k := 12) (j := 13) (by kernel_rfl) (und hp (k := 11) (j := 12) (by kernel_rfl) (und hp (k := 5) (j := 11) (by kernel_rfl) (und hp (k := 4) (j := 5) (by kernel_rfl) (und hp (k := 3) (j := 4) (by kernel_rfl) hu))))), (und hp (k := 3) (j := 14) (by kernel_rfl) hu)⟩) rfl (fun l a V hp h1 hB ha => ⟨.pointer (some ⟨w.heap.size, 5, none⟩), by
                have x35 := (ev_form a 35).trans (show a.eval (.tmp 35) = .pointer (some ⟨w.heap.size, 5, none⟩) from (kn hp ha 35 2 (by kernel_rfl) (by kernel_rfl)).1)
                go_simp, rfl, fun e => absurd e (by decide)⟩)
            · exact sb_val (by decide) (by decide) (fun l a w hp hu => ⟨(und hp (k := 12) (j := 13) (by kernel_rfl) (und hp (k := 11) (j := 12) (by kernel_rfl) (und hp (k := 5) (j := 11) (by kernel_rfl) (und hp (k := 4) (j := 5) (by kernel_rfl) hu)))), (und hp (k := 4) (j := 14) (by kernel_rfl) hu)⟩) rfl (fun l a V hp h1 hB ha => ⟨.int .i64 (W : Int), by
                have x36 := (ev_form a 36).trans (show a.eval (.tmp 36) = .pointer (some ⟨w.heap.size, 5, none⟩) from (kn hp ha 36 3 (by kernel_rfl) (by kernel_rfl)).1)
                obtain ⟨k5, k6⟩ := unhide HFC V (btr (unhide HB) hB)
                go_simp, rfl, fun e => absurd e (by decide)⟩)
            · exact sb_val (by decide) (by decide) (fun l a w hp hu => ⟨(und hp (k := 12) (j := 13) (by kernel_rfl) (und hp (k := 11) (j := 12) (by kernel_rfl) (und hp (k := 5) (j := 11) (by kernel_rfl) hu))), (und hp (k := 5) (j := 14) (by kernel_rfl) hu)⟩) rfl (fun l a V hp h1 hB ha => ⟨.int .i64 r1, by
                have x34 := (ev_form a 34).trans (show a.eval (.tmp 34) = .int .i64 t from (kn hp ha 34 1 (by kernel_rfl) (by kernel_rfl)).1)
                have x37 := (ev_form a 37).trans (show a.eval (.tmp 37) = .int .i64 (W : Int) from (kn hp ha 37 4 (by kernel_rfl) (by kernel_rfl)).1)
                have hz := unhide HZ; have ha := unhide HA1
                go_simp, rfl, fun e => absurd e (by decide)⟩)
            · exact sb_val (by decide) (by decide) (fun l a w hp hu => ⟨(und hp (k := 12) (j := 13) (by kernel_rfl) (und hp (k := 11) (j := 12) (by kernel_rfl) (und hp (k := 10) (j := 11) (by kernel_rfl) (und hp (k := 6) (j := 10) (by kernel_rfl) hu)))), (und hp (k := 6) (j := 14) (by kernel_rfl) hu)⟩) rfl (fun l a V hp h1 hB ha => ⟨.int .i64 t, by
                have x8 := (ev_form a 8).trans (old hp 8 (v := .int .i64 t) (by kernel_rfl) (by kernel_rfl))
                go_simp, rfl, fun e => absurd e (by decide)⟩)
            · exact sb_val (by decide) (by decide) (fun l a w hp hu => ⟨(und hp (k := 12) (j := 13) (by kernel_rfl) (und hp (k := 11) (j := 12) (by kernel_rfl) (und hp (k := 10) (j := 11) (by kernel_rfl) (und hp (k := 9) (j := 10) (by kernel_rfl) (und hp (k := 8) (j := 9) (by kernel_rfl) (und hp (k := 7) (j := 8) (by kernel_rfl) hu)))))), (und hp (k := 7) (j := 14) (by kernel_rfl) hu)⟩) rfl (fun l a V hp h1 hB ha => ⟨.pointer (some ⟨w.heap.size, 5, none⟩), by
                have x2 := (ev_form a 2).trans (old hp 2 (v := .pointer (some ⟨w.heap.size, 0, none⟩)) (by kernel_rfl) (by kernel_rfl))
                go_simp, rfl, fun e => absurd e (by decide)⟩)
            · exact sb_val (by decide) (by decide) (fun l a w hp hu => ⟨(und hp (k := 12) (j := 13) (by kernel_rfl) (und hp (k := 11) (j := 12) (by kernel_rfl) (und hp (k := 10) (j := 11) (by kernel_rfl) (und hp (k := 9) (j := 10) (by kernel_rfl) (und hp (k := 8) (j := 9) (by kernel_rfl) hu))))), (und hp (k := 8) (j := 14) (by kernel_rfl) hu)⟩) rfl (fun l a V hp h1 hB ha => ⟨.pointer (some ⟨w.heap.size, 5, none⟩), by
                have x40 := (ev_form a 40).trans (show a.eval (.tmp 40) = .pointer (some ⟨w.heap.size, 5, none⟩) from (kn hp ha 40 7 (by kernel_rfl) (by kernel_rfl)).1)
                go_simp, rfl, fun e => absurd e (by decide)⟩)
            · exact sb_val (by decide) (by decide) (fun l a w hp hu => ⟨(und hp (k := 12) (j := 13) (by kernel_rfl) (und hp (k := 11) (j := 12) (by kernel_rfl) (und hp (k := 10) (j := 11) (by kernel_rfl) (und hp (k := 9) (j := 10) (by kernel_rfl) hu)))), (und hp (k := 9) (j := 14) (by kernel_rfl) hu)⟩) rfl (fun l a V hp h1 hB ha => ⟨.int .i64 (W : Int), by
                have x41 := (ev_form a 41).trans (show a.eval (.tmp 41) = .pointer (some ⟨w.heap.size, 5, none⟩) from (kn hp ha 41 8 (by kernel_rfl) (by kernel_rfl)).1)
                obtain ⟨k5, k6⟩ := unhide HFC V (btr (unhide HB) hB)
                go_simp, rfl, fun e => absurd e (by decide)⟩)
            · exact sb_val (by decide) (by decide) (fun l a w hp hu => ⟨(und hp (k := 12) (j := 13) (by kernel_rfl) (und hp (k := 11) (j := 12) (by kernel_rfl) (und hp (k := 10) (j := 11) (by kernel_rfl) hu))), (und hp (k := 10) (j := 14) (by kernel_rfl) hu)⟩) rfl (fun l a V hp h1 hB ha => ⟨.int .i64 r2, by
                have x39 := (ev_form a 39).trans (show a.eval (.tmp 39) = .int .i64 t from (kn hp ha 39 6 (by kernel_rfl) (by kernel_rfl)).1)
                have x42 := (ev_form a 42).trans (show a.eval (.tmp 42) = .int .i64 (W : Int) from (kn hp ha 42 9 (by kernel_rfl) (by kernel_rfl)).1)
                have hz := unhide HZ; have ha := unhide HA2; obtain ⟨g1, g2⟩ := unhide HA3; have hw : IntKind.i64.wrap r2 = r2 := by (simp [IntKind.wrap, IntKind.signed, IntKind.bits]; omega)
                go_simp, rfl, fun e => absurd e (by decide)⟩)
            · exact sb_val (by decide) (by decide) (fun l a w hp hu => ⟨(und hp (k := 12) (j := 13) (by kernel_rfl) (und hp (k := 11) (j := 12) (by kernel_rfl) hu)), (und hp (k := 11) (j := 14) (by kernel_rfl) hu)⟩) rfl (fun l a V hp h1 hB ha => ⟨.agg #[.int .i64 r1, .int .i64 r2], by
                have x38 := (ev_form a 38).trans (show a.eval (.tmp 38) = .int .i64 r1 from (kn hp ha 38 5 (by kernel_rfl) (by kernel_rfl)).1)
                have x43 := (ev_form a 43).trans (show a.eval (.tmp 43) = .int .i64 r2 from (kn hp ha 43 10 (by kernel_rfl) (by kernel_rfl)).1)
                go_simp, rfl, fun e => absurd e (by decide)⟩)
            · exact sb_new (F2B.lasts _ _) (by decide) (by decide) (fun l a w hp hu => ⟨(und hp (k := 12) (j := 13) (by kernel_rfl) hu), (und hp (k := 12) (j := 14) (by kernel_rfl) hu)⟩) rfl (fun l a V hp h1 hB ha => ⟨.slice (some ⟨V.heap.size, 0, none⟩) 1 1, .cells ((spC (r1, r2))).toArray 87, by
                have x44 := (ev_form a 44).trans (show a.eval (.tmp 44) = .agg #[.int .i64 r1, .int .i64 r2] from (kn hp ha 44 11 (by kernel_rfl) (by kernel_rfl)).1)
                go_simp <;> rfl, trivial, fun _ => ⟨V.heap.size, rfl, new_at V _ _⟩⟩)
            · refine sb_app (fun l a w hp hu => (und hp (k := 13) (j := 14) (by kernel_rfl) hu)) rfl (fun l a V hp h1 hB ha => ?_)
              have hv0 : a.eval (.tmp 33) = (.slice va vl vc) := (kn hp ha 33 0 (by kernel_rfl) (by kernel_rfl)).1
              obtain ⟨M1, hv1, hat⟩ := (kn hp ha 45 12 (by kernel_rfl) (by kernel_rfl)).2.1 h1 rfl
              obtain ⟨v', w', hr, h2, h3⟩ := run_app_one (x := (r1, r2)) (by kernel_rfl : Tryz.prog.underlying 78 = some (.slice 87)) info87 rfl (by decide) (by decide) spC_len spC_one ((unhide HOT).later hB) hat (by have := unhide HAL; omega) (by have := hB.size; have := unhide HSZ; omega)
              refine ⟨v', w', ?_, ⟨h2, V, hB, h3⟩, trivial⟩
              unfold execOp
              simp only [resolve, invoke, builtin, Sem.run_bind, Sem.run_pure, Result.andThen_ok, List.map_toArray, List.map_cons, List.map_nil, hv0, hv1, hr]
            · refine sb_last (t := 46) rfl rfl (by kernel_rfl) (fun l a V hp => ?_) (fun _ => trivial)
              have x46 := ev_form a 46
              generalize a.eval (.tmp 46) = tv' at *
              go_simp
          case hf =>
            intro l a W1 hp hall
            have hv := (hp.good 14 _ 5 rfl rfl (hall 14 (by decide))).2.2 (.inr rfl)
            obtain ⟨us1, rfl, hus⟩ := putAll_of [33, 34, 35, 36, 37, 38, 39, 40, 41, 42, 43, 44, 45, 46, 5] hp.nt hp.df (fun t ht => hp.keep t (dstIn (by kernel_rfl) ht))
            obtain ⟨nv1, hnv⟩ : ∃ nv, us1 5 = nv := ⟨_, rfl⟩
            have HAP : Hid ((AP 87 2 spC X.heap.size wr (.slice va vl vc) (acc ++ [(r1, r2)])) nv1 W1) := hide (by rw [← hnv, hus 5]; exact hv)
            clear hp hall hus hv
            simp only [putAll, List.foldl, Act.put, List.setIfInBounds_toArray, List.set_cons_zero, List.set_cons_succ, hnv]
            clear hnv
            obtain ⟨ho2, hb2⟩ := (unhide HAP).below (unhide HOT) (.inr (unhide HSZ))
            have HR2 := hide ho2
            have HB2 := hide (below_both (unhide HB) hb2)
            clear ho2 hb2
            go_wp2_with fail
            go_roundw
            case rel => exact ⟨k + 1, by omega, by go_num, by rw [unhide HST, ← List.append_assoc, unhide HACC]; exact unhide HR2, unhide HB2⟩
            case measure => simp [intOf]; omega
        · obtain rfl : N = k := by omega
          have HO2 := hide hot
          have HB2 := hide hb
          obtain ⟨f0, f3, f4⟩ := unhide HFL wr hb
          clear hot hb HB HSZ
          go_wp2_with fail
          go_loopw [5, 57] (fun v i wr => ∃ j : Nat, j ≤ M ∧ i = .int .i64 j ∧ OW 87 2 spC X.heap.size wr v ((spI H l0 ++ spT W ts N) ++ spE W H j) ∧ Below X.heap.size X wr) (fun _ i _ => M - (intOf i).toNat)
          case atStart => exact ⟨0, Nat.zero_le _, rfl, by rw [spE, List.append_nil]; exact unhide HO2, unhide HB2⟩
          case round =>
            obtain ⟨k, hk, rfl, hot, hb⟩ := hrel
            have HB := hide hb
            have HSZ := hide hb.size
            by_cases hlt3 : k < M
            · skip
              have HAL := hide (show ((spI H l0 ++ spT W ts N) ++ spE W H k).length ≤ 4194303 by have := spI_len H l0; have := spT_len W ts N; have := spE_len W H k; have := unhide HTOT; rw [List.length_append, List.length_append]; omega)
              obtain ⟨va, vc, hvs, hvc⟩ := hot.slice
              obtain ⟨vl, hvl⟩ : ∃ vl, ((spI H l0 ++ spT W ts N) ++ spE W H k).length = vl := ⟨_, rfl⟩
              rw [hvl] at hvs
              subst hvs
              have HOT := hide hot
              have hz0 : ¬ H = 0 := by omega
              have HZ := hide hz0
              obtain ⟨ym, ha⟩ : ∃ a, (k : Int) % (H : Int) = a := ⟨_, rfl⟩
              have HA : Hid (Int.tmod (k : Int) (H : Int) = ym) := hide (by rw [Int.tmod_eq_emod_of_nonneg (by omega), ha])
              have HST : Hid (spE W H (k + 1) = spE W H k ++ [((W : Int), ym)]) := hide (by rw [spE, ha])
              obtain ⟨acc, hacc⟩ : ∃ acc, (spI H l0 ++ spT W ts N) ++ spE W H k = acc := ⟨_, rfl⟩
              have HACC := hide hacc
              rw [hacc] at HOT HAL
              clear hacc hot hb hvl hvc hz0 ha
              go_wp2_with fail
              refine wp_plan (GB (FSp2 W H w.heap.size k vl vc va ym) (F2B 10 (spC ((W : Int), ym))) 11 (AP 87 2 spC X.heap.size wr (.slice va vl vc) (acc ++ [((W : Int), ym)]))) (JC wr 11) (by kernel_rfl) 74 (by kernel_rfl) (by kernel_rfl) ?hj ?hs ?hf
              case hj => exact fun _ => bdr (brf wr)
              case hs =>
                refine ⟨?_, ?_, ?_, ?_, ?_, ?_, ?_, ?_, ?_, ?_, ?_, ?_, ?_, trivial⟩
                · exact sb_val (by decide) (by decide) (fun l a w hp hu => ⟨(und hp (k := 0) (j := 11) (by kernel_rfl) hu), (und hp (k := 0) (j := 12) (by kernel_rfl) hu)⟩) rfl (fun l a V hp h1 hB ha => ⟨.slice va vl vc, by
                    have x5 := (ev_form a 5).trans (show a.eval (.tmp 5) = .slice va vl vc from (hp.fresh 12 _ 5 rfl rfl h1).trans (by kernel_rfl))
                    go_simp, rfl, fun e => absurd e (by decide)⟩)
                · exact sb_val (by decide) (by decide) (fun l a w hp hu => ⟨(und hp (k := 10) (j := 11) (by kernel_rfl) (und hp (k := 9) (j := 10) (by kernel_rfl) (und hp (k := 3) (j := 9) (by kernel_rfl) (und hp (k := 2) (j := 3) (by kernel_rfl) (und hp (k := 1) (j := 2) (by kernel_rfl) hu))))), (und hp (k := 1) (j := 12) (by kernel_rfl) hu)⟩) rfl (fun l a V hp h1 hB ha => ⟨.pointer (some ⟨w.heap.size, 5, none⟩), by
                    have x2 := (ev_form a 2).trans (old hp 2 (v := .pointer (some ⟨w.heap.size, 0, none⟩)) (by kernel_rfl) (by kernel_rfl))
                    go_simp, rfl, fun e => absurd e (by decide)⟩)
                · exact sb_val (by decide) (by decide) (fun l a w hp hu => ⟨(und hp (k := 10) (j := 11) (by kernel_rfl) (und hp (k := 9) (j := 10) (by kernel_rfl) (und hp (k := 3) (j := 9) (by kernel_rfl) (und hp (k := 2) (j := 3) (by kernel_rfl) hu)))), (und hp (k := 2) (j := 12) (by kernel_rfl) hu)⟩) rfl (fun l a V hp h1 hB ha => ⟨.pointer (some ⟨w.heap.size, 5, none⟩), by
                    have x61 := (ev_form a 61).trans (show a.eval (.tmp 61) = .pointer (some ⟨w.heap.size, 5, none⟩) from (kn hp ha 61 1 (by kernel_rfl) (by kernel_rfl)).1)
                    go_simp, rfl, fun e => absurd e (by decide)⟩)
                · exact sb_val (by decide) (by decide) (fun l a w hp hu => ⟨(und hp (k := 10) (j := 11) (by kernel_rfl) (und hp (k := 9) (j := 10) (by kernel_rfl) (und hp (k := 3) (j := 9) (by kernel_rfl) hu))), (und hp (k := 3) (j := 12) (by kernel_rfl) hu)⟩) rfl (fun l a V hp h1 hB ha => ⟨.int .i64 (W : Int), by
                    have x62 := (ev_form a 62).trans (show a.eval (.tmp 62) = .pointer (some ⟨w.heap.size, 5, none⟩) from (kn hp ha 62 2 (by kernel_rfl) (by kernel_rfl)).1)
                    obtain ⟨k5, k6⟩ := unhide HFC V (btr (unhide HB) hB)
                    go_simp, rfl, fun e => absurd e (by decide)⟩)
                · exact sb_val (by decide) (by decide) (fun l a w hp hu => ⟨(und hp (k := 10) (j := 11) (by kernel_rfl) (und hp (k := 9) (j := 10) (by kernel_rfl) (und hp (k := 8) (j := 9) (by kernel_rfl) (und hp (k := 4) (j := 8) (by kernel_rfl) hu)))), (und hp (k := 4) (j := 12) (by kernel_rfl) hu)⟩) rfl (fun l a V hp h1 hB ha => ⟨.int .i64 (k : Int), by
                    have x9 := (ev_form a 9).trans (old hp 9 (v := .int .i64 (k : Int)) (by kernel_rfl) (by kernel_rfl))
                    go_simp, rfl, fun e => absurd e (by decide)⟩)
                · exact sb_val (by decide) (by decide) (fun l a w hp hu => ⟨(und hp (k := 10) (j := 11) (by kernel_rfl) (und hp (k := 9) (j := 10) (by kernel_rfl) (und hp (k := 8) (j := 9) (by kernel_rfl) (und hp (k := 7) (j := 8) (by kernel_rfl) (und hp (k := 6) (j := 7) (by kernel_rfl) (und hp (k := 5) (j := 6) (by kernel_rfl) hu)))))), (und hp (k := 5) (j := 12) (by kernel_rfl) hu)⟩) rfl (fun l a V hp h1 hB ha => ⟨.pointer (some ⟨w.heap.size, 5, none⟩), by
                    have x2 := (ev_form a 2).trans (old hp 2 (v := .pointer (some ⟨w.heap.size, 0, none⟩)) (by kernel_rfl) (by kernel_rfl))
                    go_simp, rfl, fun e => absurd e (by decide)⟩)
                · exact sb_val (by decide) (by decide) (fun l a w hp hu => ⟨(und hp (k := 10) (j := 11) (by kernel_rfl) (und hp (k := 9) (j := 10) (by kernel_rfl) (und hp (k := 8) (j := 9) (by kernel_rfl) (und hp (k := 7) (j := 8) (by kernel_rfl) (und hp (k := 6) (j := 7) (by kernel_rfl) hu))))), (und hp (k := 6) (j := 12) (by kernel_rfl) hu)⟩) rfl (fun l a V hp h1 hB ha => ⟨.pointer (some ⟨w.heap.size, 6, none⟩), by
                    have x65 := (ev_form a 65).trans (show a.eval (.tmp 65) = .pointer (some ⟨w.heap.size, 5, none⟩) from (kn hp ha 65 5 (by kernel_rfl) (by kernel_rfl)).1)
                    go_simp, rfl, fun e => absurd e (by decide)⟩)
                · exact sb_val (by decide) (by decide) (fun l a w hp hu => ⟨(und hp (k := 10) (j := 11) (by kernel_rfl) (und hp (k := 9) (j := 10) (by kernel_rfl) (und hp (k := 8) (j := 9) (by kernel_rfl) (und hp (k := 7) (j := 8) (by kernel_rfl) hu)))), (und hp (k := 7) (j := 12) (by kernel_rfl) hu)⟩) rfl (fun l a V hp h1 hB ha => ⟨.int .i64 (H : Int), by
                    have x66 := (ev_form a 66).trans (show a.eval (.tmp 66) = .pointer (some ⟨w.heap.size, 6, none⟩) from (kn hp ha 66 6 (by kernel_rfl) (by kernel_rfl)).1)
                    obtain ⟨k5, k6⟩ := unhide HFC V (btr (unhide HB) hB)
                    go_simp, rfl, fun e => absurd e (by decide)⟩)
                · exact sb_val (by decide) (by decide) (fun l a w hp hu => ⟨(und hp (k := 10) (j := 11) (by kernel_rfl) (und hp (k := 9) (j := 10) (by kernel_rfl) (und hp (k := 8) (j := 9) (by kernel_rfl) hu))), (und hp (k := 8) (j := 12) (by kernel_rfl) hu)⟩) rfl (fun l a V hp h1 hB ha => ⟨.int .i64 ym, by
                    have x64 := (ev_form a 64).trans (show a.eval (.tmp 64) = .int .i64 (k : Int) from (kn hp ha 64 4 (by kernel_rfl) (by kernel_rfl)).1)
                    have x67 := (ev_form a 67).trans (show a.eval (.tmp 67) = .int .i64 (H : Int) from (kn hp ha 67 7 (by kernel_rfl) (by kernel_rfl)).1)
                    have hz := unhide HZ; have ha := unhide HA
                    go_simp, rfl, fun e => absurd e (by decide)⟩)
                · exact sb_val (by decide) (by decide) (fun l a w hp hu => ⟨(und hp (k := 10) (j := 11) (by kernel_rfl) (und hp (k := 9) (j := 10) (by kernel_rfl) hu)), (und hp (k := 9) (j := 12) (by kernel_rfl) hu)⟩) rfl (fun l a V hp h1 hB ha => ⟨.agg #[.int .i64 (W : Int), .int .i64 ym], by
                    have x63 := (ev_form a 63).trans (show a.eval (.tmp 63) = .int .i64 (W : Int) from (kn hp ha 63 3 (by kernel_rfl) (by kernel_rfl)).1)
                    have x68 := (ev_form a 68).trans (show a.eval (.tmp 68) = .int .i64 ym from (kn hp ha 68 8 (by kernel_rfl) (by kernel_rfl)).1)
                    go_simp, rfl, fun e => absurd e (by decide)⟩)
                · exact sb_new (F2B.lasts _ _) (by decide) (by decide) (fun l a w hp hu => ⟨(und hp (k := 10) (j := 11) (by kernel_rfl) hu), (und hp (k := 10) (j := 12) (by kernel_rfl) hu)⟩) rfl (fun l a V hp h1 hB ha => ⟨.slice (some ⟨V.heap.size, 0, none⟩) 1 1, .cells ((spC ((W : Int), ym))).toArray 87, by
                    have x69 := (ev_form a 69).trans (show a.eval (.tmp 69) = .agg #[.int .i64 (W : Int), .int .i64 ym] from (kn hp ha 69 9 (by kernel_rfl) (by kernel_rfl)).1)
                    go_simp <;> rfl, trivial, fun _ => ⟨V.heap.size, rfl, new_at V _ _⟩⟩)
                · refine sb_app (fun l a w hp hu => (und hp (k := 11) (j := 12) (by kernel_rfl) hu)) rfl (fun l a V hp h1 hB ha => ?_)
                  have hv0 : a.eval (.tmp 60) = (.slice va vl vc) := (kn hp ha 60 0 (by kernel_rfl) (by kernel_rfl)).1
                  obtain ⟨M1, hv1, hat⟩ := (kn hp ha 70 10 (by kernel_rfl) (by kernel_rfl)).2.1 h1 rfl
                  obtain ⟨v', w', hr, h2, h3⟩ := run_app_one (x := ((W : Int), ym)) (by kernel_rfl : Tryz.prog.underlying 78 = some (.slice 87)) info87 rfl (by decide) (by decide) spC_len spC_one ((unhide HOT).later hB) hat (by have := unhide HAL; omega) (by have := hB.size; have := unhide HSZ; omega)
                  refine ⟨v', w', ?_, ⟨h2, V, hB, h3⟩, trivial⟩
                  unfold execOp
                  simp only [resolve, invoke, builtin, Sem.run_bind, Sem.run_pure, Result.andThen_ok, List.map_toArray, List.map_cons, List.map_nil, hv0, hv1, hr]
                · refine sb_last (t := 71) rfl rfl (by kernel_rfl) (fun l a V hp => ?_) (fun _ => trivial)
                  have x71 := ev_form a 71
                  generalize a.eval (.tmp 71) = tv' at *
                  go_simp
              case hf =>
                intro l a W1 hp hall
                have hv := (hp.good 12 _ 5 rfl rfl (hall 12 (by decide))).2.2 (.inr rfl)
                obtain ⟨us1, rfl, hus⟩ := putAll_of [60, 61, 62, 63, 64, 65, 66, 67, 68, 69, 70, 71, 5] hp.nt hp.df (fun t ht => hp.keep t (dstIn (by kernel_rfl) ht))
                obtain ⟨nv1, hnv⟩ : ∃ nv, us1 5 = nv := ⟨_, rfl⟩
                have HAP : Hid ((AP 87 2 spC X.heap.size wr (.slice va vl vc) (acc ++ [((W : Int), ym)])) nv1 W1) := hide (by rw [← hnv, hus 5]; exact hv)
                clear hp hall hus hv
                simp only [putAll, List.foldl, Act.put, List.setIfInBounds_toArray, List.set_cons_zero, List.set_cons_succ, hnv]
                clear hnv
                obtain ⟨ho2, hb2⟩ := (unhide HAP).below (unhide HOT) (.inr (unhide HSZ))
                have HR2 := hide ho2
                have HB2 := hide (below_both (unhide HB) hb2)
                clear ho2 hb2
                go_wp2_with fail
                go_roundw
                case rel => exact ⟨k + 1, by omega, by go_num, by rw [unhide HST, ← List.append_assoc, unhide HACC]; exact unhide HR2, unhide HB2⟩
                case measure => simp [intOf]; omega
            · obtain rfl : M = k := by omega
              have HO3 := hide hot
              have HB3 := hide ((unhide HXB).trans (hb.mono (unhide HXB).size))
              clear hot hb HB HSZ
              go_wp2_with fail
              exact bodyPost_ret (v := _) (by simp [results, Tryz.results59, go_sem]) rfl ⟨⟨_, rfl, _, unhide HO3⟩, unhide HB3⟩
end Go.Proofs.YtlldfaniddbjaaaGreatDoor
