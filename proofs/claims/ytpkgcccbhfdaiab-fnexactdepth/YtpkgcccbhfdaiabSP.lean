/- The specification's l10Pins. -/
import Derived.Test.YtpkgcccbhfdaiabSS2
import Derived.Test.YtpkgcccbhfdaiabRW3
namespace Go.Proofs.Ytpkgcccbhfdaiab
open Go Go.RowKit Gs
set_option linter.unusedVariables false
set_option linter.unusedSimpArgs false
set_option maxRecDepth 100000
def FP6 (s0 s1 s2 s3 s4 s5 : Option Addr) (l0 l1 l2 l3 l4 l5 c0 c1 c2 c3 c4 c5 : Nat) (b o n cp k VV : Nat) (z : Int) : Nat → Value → Prop
  | 0, v => v = .agg #[.slice s0 l0 c0, .slice s1 l1 c1, .slice s2 l2 c2, .slice s3 l3 c3, .slice s4 l4 c4, .slice s5 l5 c5]
  | 1, v => v = .slice (some ⟨b, o, none⟩) n cp
  | 2, v => v = .int .i64 (k : Int)
  | 3, v => v = .pointer (some ⟨b, o + k * 2, none⟩)
  | 4, v => v = .pointer (some ⟨b, o + k * 2 + 1, none⟩)
  | 5, v => v = .int .i64 z
  | 6, v => v = .bool (litB z VV)
  | 7, v => v = .bool (!(litB z VV))
  | _, _ => True
/-- What l10Pins answers. -/
def pinsB (VV : Nat) (ps : List Pin) : Bool := ps.all (fun p : Pin => litB p.lit VV) && namesB (ps.map (fun p : Pin => p.name))
set_option maxHeartbeats 16000000 in
theorem sPins (s0 s1 s2 s3 s4 s5 : Option Addr) (l0 l1 l2 l3 l4 l5 c0 c1 c2 c3 c4 c5 : Nat) (ps : List Pin) (v : Value) (w : World) (h0 : l0 ≤ 1048576) (h2 : l2 ≤ 1048576) (h3 : l3 ≤ 1048576) (hl : ps.length ≤ 1048576) (hr : RS 2 RPin w 0 ps v) :
    Calls Try.prog 31 #[.agg #[.slice s0 l0 c0, .slice s1 l1 c1, .slice s2 l2 c2, .slice s3 l3 c3, .slice s4 l4 c4, .slice s5 l5 c5], v] w fun e w' => e = .returned (.bool (pinsB (1 + l0 + l2 + l3) ps)) ∧ Below w.heap.size w w' := by
  have HLT := hide (fun (V : World) (x : Int) => sLit s0 s1 s2 s3 s4 s5 l0 l1 l2 l3 l4 l5 c0 c1 c2 c3 c4 c5 x V h0 h2 h3)
  generalize 1 + l0 + l2 + l3 = VV at *
  have HC1 : Hid (∀ V, Below (w.alloc (.cells #[.slice s0 l0 c0, .slice s1 l1 c1, .slice s2 l2 c2, .slice s3 l3 c3, .slice s4 l4 c4, .slice s5 l5 c5] 34)).heap.size (w.alloc (.cells #[.slice s0 l0 c0, .slice s1 l1 c1, .slice s2 l2 c2, .slice s3 l3 c3, .slice s4 l4 c4, .slice s5 l5 c5] 34)) V → V.cell? ⟨w.heap.size, 0, none⟩ = some (.slice s0 l0 c0) ∧ V.cell? ⟨w.heap.size, 1, none⟩ = some (.slice s1 l1 c1) ∧ V.cell? ⟨w.heap.size, 2, none⟩ = some (.slice s2 l2 c2) ∧ V.cell? ⟨w.heap.size, 3, none⟩ = some (.slice s3 l3 c3) ∧ V.cell? ⟨w.heap.size, 4, none⟩ = some (.slice s4 l4 c4) ∧ V.cell? ⟨w.heap.size, 5, none⟩ = some (.slice s5 l5 c5)) := hide (fun V hb => ⟨cell_later hb (by rw [World.cell?_alloc_new]; rfl), cell_later hb (by rw [World.cell?_alloc_new]; rfl), cell_later hb (by rw [World.cell?_alloc_new]; rfl), cell_later hb (by rw [World.cell?_alloc_new]; rfl), cell_later hb (by rw [World.cell?_alloc_new]; rfl), cell_later hb (by rw [World.cell?_alloc_new]; rfl)⟩)
  obtain ⟨W, hW⟩ : ∃ W, W = w.alloc (.cells #[.slice s0 l0 c0, .slice s1 l1 c1, .slice s2 l2 c2, .slice s3 l3 c3, .slice s4 l4 c4, .slice s5 l5 c5] 34) := ⟨_, rfl⟩
  have HW : Hid (Below w.heap.size w W) := hide (by rw [hW]; exact bal (brf w) _)
  have hWS : W.heap.size = w.heap.size + 1 := by rw [hW]; simp
  rw [← hW] at HC1
  have HW' := hide hW
  obtain ⟨ap, cp, rfl⟩ := hr.slice
  have HCS : Hid (∀ (i : Nat) x, ps[i]? = some x → ∃ b o, ap = some ⟨b, o, none⟩ ∧ w.cell? ⟨b, o + i * 2, none⟩ = some (.string x.name) ∧ w.cell? ⟨b, o + i * 2 + 1, none⟩ = some (.int .i64 x.lit) ∧ x.name.size ≤ maxLen) := hide (by
    intro i x hx
    rcases hr.open with ⟨rfl, _⟩ | ⟨b, o, c', hv, _, _, _, he⟩
    · simp at hx
    · injection hv with e1 e2 e3
      obtain ⟨u, hu, hat, hux, hs⟩ := he i x hx
      subst hux
      refine ⟨b, o, e1, ?_, ?_, hs⟩
      · simpa using hat.get (j := 0) rfl
      · simpa using hat.get (j := 1) rfl)
  clear hr h0 h2 h3 hW
  obtain ⟨i0, hi, hz0, hz1, hz2⟩ := info_parts info9
  have HI := hide (And.intro hi (And.intro hz0 (And.intro hz1 hz2)))
  clear hi hz0 hz1 hz2
  go_enter Try.func31, Try.ntmps31
  go_wp2
  rw [← unhide HW', ← hWS]
  clear hWS
  go_loopw [5, 6] (fun vn i wr => ∃ k : Nat, k ≤ ps.length ∧ i = .int .i64 k ∧ OS W.heap.size wr vn ((ps.take k).map (fun p : Pin => p.name)) ∧ (ps.take k).all (fun p : Pin => litB p.lit VV) = true ∧ Below W.heap.size W wr) (fun vn i wr => ps.length - (intOf i).toNat)
  case atStart => exact ⟨0, Nat.zero_le _, rfl, OS_start rfl (Nat.le_refl _), rfl, bal (brf W) _⟩
  case round =>
    obtain ⟨k, hk, rfl, ho, hall, hb⟩ := hrel
    have HO := hide ho
    have HA := hide hall
    have HB := hide hb
    clear ho hall
    by_cases hlt : k < ps.length
    · have hx : ps[k]? = some ps[k] := List.getElem?_eq_getElem hlt
      have hmem : ps[k] ∈ ps := List.getElem_mem hlt
      generalize ps[k] = x at hx hmem
      have HST := hide (show (ps.take (k + 1)).map (fun p : Pin => p.name) = (ps.take k).map (fun p : Pin => p.name) ++ [x.name] by rw [List.take_add_one, hx, List.map_append]; rfl)
      have HLEN := hide (show ((ps.take k).map (fun p : Pin => p.name)).length = k by rw [List.length_map, List.length_take]; omega)
      have HSA := hide (show (ps.take (k + 1)).all (fun p : Pin => litB p.lit VV) = ((ps.take k).all (fun p : Pin => litB p.lit VV) && litB x.lit VV) by rw [List.take_add_one, hx, List.all_append]; simp)
      have HF : Hid (litB x.lit VV = false → pinsB VV ps = false) := hide (fun h => by
        unfold pinsB
        rw [show ps.all (fun p : Pin => litB p.lit VV) = false from by rw [← Bool.not_eq_true]; intro e; rw [List.all_eq_true.1 e x hmem] at h; cases h]
        rfl)
      obtain ⟨b, o, rfl, hc0, hc1, hsz⟩ := unhide HCS k x hx
      have k0 := cell_later (btr (unhide HW) hb) hc0
      have HZ := hide (fun (V : World) (hV : Below w.heap.size w V) => cell_later hV hc1)
      have HN := hide hsz
      have HSZ := hide hb.size
      have i1 : (0 : Int) ≤ (k : Int) := by omega
      have i2 : (k : Int) < (ps.length : Int) := by omega
      clear HCS hx hmem hc0 hc1 hsz hb
      generalize x.name = nm at *
      generalize x.lit = z at *
      go_wp2_with (first
        | (at_builtin; refine wpList_append_own _ rfl _ _ 22 rfl W.heap.size 9 i0 (.string ByteArray.empty) 1 16 Try.underlying22 (unhide HI).1 (unhide HI).2.1 (unhide HI).2.2.1 (unhide HI).2.2.2 rfl (by decide) _ _ _ rfl ((unhide HO).1.alloc _) ⟨wr.heap.size, 0, none⟩ 1 1 [.string nm] rfl rfl (newS _ _ _ rfl) (oneS _) (by have := unhide HLEN; unfold maxLen; omega) (by have := unhide HLEN; omega) (by have := unhide HSZ; simp; omega) ?_; intro v' w2 hown' hgrow _)
        | go_in)
      have R1 : OS W.heap.size w2 v' ((ps.take (k + 1)).map (fun p : Pin => p.name)) := by rw [unhide HST]; exact OS.step hown' (unhide HO).2 (unhide HN)
      have HB2 := hide (below_grown (bal (unhide HB) (.cells #[.string nm] 9)) hgrow (by have := unhide HSZ; simp; omega) (own_row (unhide HO).1))
      have hz2 := unhide HZ w2 (btr (unhide HW) (unhide HB2))
      have HR1 := hide R1
      clear R1 hown' hgrow HZ
      refine wp_plan (GF (FP6 s0 s1 s2 s3 s4 s5 l0 l1 l2 l3 l4 l5 c0 c1 c2 c3 c4 c5 b o ps.length cp k VV z)) (JB w2) (by kernel_rfl) 32 (by kernel_rfl) (by kernel_rfl) ?hj ?hs ?hf
      case hj => exact bdr (brf w2)
      case hs =>
        refine ⟨?_, ?_, ?_, ?_, ?_, ?_, ?_, ?_, trivial⟩
        · exact st_val rfl (fun l a V hp ha => ⟨.agg #[.slice s0 l0 c0, .slice s1 l1 c1, .slice s2 l2 c2, .slice s3 l3 c3, .slice s4 l4 c4, .slice s5 l5 c5], by
            have x2 := (ev_form a 2).trans (old hp 2 (v := .pointer (some ⟨w.heap.size, 0, none⟩)) (by kernel_rfl) (by kernel_rfl))
            obtain ⟨q0, q1, q2, q3, q4, q5⟩ := unhide HC1 V (btr (unhide HB2) hp.j)
            go_simp, rfl⟩)
        · exact st_val rfl (fun l a V hp ha => ⟨.slice (some ⟨b, o, none⟩) ps.length cp, by
            have x1 := (ev_form a 1).trans (old hp 1 (v := .slice (some ⟨b, o, none⟩) ps.length cp) (by kernel_rfl) (by kernel_rfl))
            go_simp, rfl⟩)
        · exact st_val rfl (fun l a V hp ha => ⟨.int .i64 (k : Int), by
            have x6 := (ev_form a 6).trans (old hp 6 (v := .int .i64 (k : Int)) (by kernel_rfl) (by kernel_rfl))
            go_simp, rfl⟩)
        · exact st_val rfl (fun l a V hp ha => ⟨.pointer (some ⟨b, o + k * 2, none⟩), by
            have x23 := (ev_form a 23).trans (show a.eval (.tmp 23) = .slice (some ⟨b, o, none⟩) ps.length cp from kn hp ha 23 1 (by kernel_rfl) (by kernel_rfl))
            have x24 := (ev_form a 24).trans (show a.eval (.tmp 24) = .int .i64 (k : Int) from kn hp ha 24 2 (by kernel_rfl) (by kernel_rfl))
            go_simp, rfl⟩)
        · exact st_val rfl (fun l a V hp ha => ⟨.pointer (some ⟨b, o + k * 2 + 1, none⟩), by
            have x25 := (ev_form a 25).trans (show a.eval (.tmp 25) = .pointer (some ⟨b, o + k * 2, none⟩) from kn hp ha 25 3 (by kernel_rfl) (by kernel_rfl))
            go_simp, rfl⟩)
        · exact st_val rfl (fun l a V hp ha => ⟨.int .i64 z, by
            have x26 := (ev_form a 26).trans (show a.eval (.tmp 26) = .pointer (some ⟨b, o + k * 2 + 1, none⟩) from kn hp ha 26 4 (by kernel_rfl) (by kernel_rfl))
            have mz := cell_later hp.j hz2
            go_simp, rfl⟩)
        · exact st_call (f := 29) rfl (fun l a V hp ha => ⟨#[.agg #[.slice s0 l0 c0, .slice s1 l1 c1, .slice s2 l2 c2, .slice s3 l3 c3, .slice s4 l4 c4, .slice s5 l5 c5], .int .i64 z], by
            have x22 := (ev_form a 22).trans (show a.eval (.tmp 22) = .agg #[.slice s0 l0 c0, .slice s1 l1 c1, .slice s2 l2 c2, .slice s3 l3 c3, .slice s4 l4 c4, .slice s5 l5 c5] from kn hp ha 22 0 (by kernel_rfl) (by kernel_rfl))
            have x27 := (ev_form a 27).trans (show a.eval (.tmp 27) = .int .i64 z from kn hp ha 27 5 (by kernel_rfl) (by kernel_rfl))
            go_simp, (unhide HLT V z).mono (by rintro e V1 ⟨rfl, hb⟩; exact ⟨_, rfl, rfl, hb⟩)⟩)
        · exact st_val rfl (fun l a V hp ha => ⟨.bool (!(litB z VV)), by
            have x28 := (ev_form a 28).trans (show a.eval (.tmp 28) = .bool (litB z VV) from kn hp ha 28 6 (by kernel_rfl) (by kernel_rfl))
            go_simp, rfl⟩)
      case hf =>
        intro l a V hp hall
        have hv29 := hp.good 7 _ 29 rfl rfl (hall 7 (by decide))
        have HBV := hide hp.j
        obtain ⟨us, rfl, hus⟩ := putAll_of [22, 23, 24, 25, 26, 27, 28, 29] hp.nt hp.df (fun t ht => hp.keep t (dstIn (by kernel_rfl) ht))
        have hu29 : us 29 = .bool (!(litB z VV)) := (hus 29).trans hv29
        clear hp hall hv29 hus
        simp only [putAll, List.foldl, Act.put, List.setIfInBounds_toArray, List.set_cons_zero, List.set_cons_succ, hu29]
        clear hu29
        generalize us 22 = y22 at *
        generalize us 23 = y23 at *
        generalize us 24 = y24 at *
        generalize us 25 = y25 at *
        generalize us 26 = y26 at *
        generalize us 27 = y27 at *
        generalize us 28 = y28 at *
        have HR2 := hide ((unhide HR1).later (unhide HBV))
        have HB3 := hide (btr (unhide HB2) (unhide HBV))
        clear hz2 k0
        generalize hp1 : litB z VV = p1 at *
        have HP := hide hp1
        clear hp1
        cases p1
        · go_wp2_with fail
          exact bodyPost_ret (v := .bool false) (by simp [results, Try.results31, go_sem]) rfl ⟨by rw [show pinsB VV ps = false from unhide HF (by first | rfl | trivial)], btr (unhide HW) (unhide HB3)⟩
        · go_wp2_with fail
          go_roundw
          case rel => exact ⟨k + 1, by omega, by go_num, unhide HR2, by rw [unhide HSA, unhide HA]; rfl, unhide HB3⟩
          case measure => simp [intOf]; omega
    · obtain rfl : k = ps.length := by omega
      have HR : Hid (pinsB VV ps = namesB (ps.map (fun p : Pin => p.name))) := hide (by
        have h := unhide HA
        rw [List.take_of_length_le (Nat.le_refl _)] at h
        unfold pinsB
        rw [h]; rfl)
      have h := unhide HO
      rw [List.take_of_length_le (Nat.le_refl _)] at h
      have HNM := hide (sNames _ _ wr (by rw [List.length_map]; omega) (h.any (by rw [List.length_map]; omega)))
      clear h hb HCS HA HO
      go_wp2_with fail
      refine (unhide HNM).mono ?_
      rintro e W1 ⟨rfl, hb1⟩
      have HB1 := hide (btr (btr (unhide HW) (unhide HB)) hb1)
      clear hb1
      go_wp2_with fail
      exact bodyPost_ret (v := .bool (namesB (ps.map (fun p : Pin => p.name)))) (by simp [results, Try.results31, go_sem]) rfl ⟨by rw [unhide HR], unhide HB1⟩
end Go.Proofs.Ytpkgcccbhfdaiab
