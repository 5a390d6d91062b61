/- The program's goals. -/
import Derived.Test.YtlldfaniddbjaaaGreatDoorGRI15u
namespace Go.Proofs.YtlldfaniddbjaaaGreatDoor
open Go Go.RowKit Gs
set_option linter.unusedVariables false
set_option linter.unusedSimpArgs false
set_option maxRecDepth 100000
set_option maxHeartbeats 16000000
/-- Where a source's net has to come to: the places of the first of some numbers, but its own, each once. -/
def glL (own : Int × Int) (st : List (Int × Int)) (ns : List Int) : Nat → List (Int × Int)
  | 0 => []
  | k + 1 => glL own st ns k ++ (match ns[k]? with | some n => (match st[n.toNat]? with | some r => if r ≠ own ∧ hasP (glL own st ns k) r = false then [r] else [] | none => []) | none => [])
theorem glL_yes {own : Int × Int} {st : List (Int × Int)} {ns : List Int} {k n : Nat} {r : Int × Int} (h : ns[k]? = some (n : Int)) (hr : st[n]? = some r) (h1 : r ≠ own) (h2 : hasP (glL own st ns k) r = false) : glL own st ns (k + 1) = glL own st ns k ++ [r] := by
  rw [glL, h]
  simp only [Int.toNat_natCast, hr, if_pos (And.intro h1 h2)]
theorem glL_no {own : Int × Int} {st : List (Int × Int)} {ns : List Int} {k n : Nat} {r : Int × Int} (h : ns[k]? = some (n : Int)) (hr : st[n]? = some r) (h1 : ¬ (r ≠ own ∧ hasP (glL own st ns k) r = false)) : glL own st ns (k + 1) = glL own st ns k := by
  rw [glL, h]
  simp only [Int.toNat_natCast, hr, if_neg h1, List.append_nil]
theorem glL_len (own : Int × Int) (st : List (Int × Int)) (ns : List Int) : ∀ k, (glL own st ns k).length ≤ k
  | 0 => by simp [glL]
  | k + 1 => by
    have := glL_len own st ns k
    rw [glL, List.length_append]
    split
    · split
      · split <;> simp <;> omega
      · simp; omega
    · simp; omega
theorem glL_mem {own : Int × Int} {st : List (Int × Int)} {ns : List Int} {r : Int × Int} : ∀ {k : Nat}, r ∈ glL own st ns k ↔ ∃ i n, i < k ∧ ns[i]? = some n ∧ st[n.toNat]? = some r ∧ r ≠ own
  | 0 => by simp [glL]
  | k + 1 => by
    rw [glL, List.mem_append, glL_mem]
    constructor
    · rintro (⟨i, n, h1, h2⟩ | h)
      · exact ⟨i, n, by omega, h2⟩
      · split at h
        · rename_i n hn
          split at h
          · rename_i r' hr
            split at h
            · rename_i hh
              simp only [List.mem_singleton] at h
              subst h
              exact ⟨k, n, by omega, hn, hr, hh.1⟩
            · simp at h
          · simp at h
        · simp at h
    · rintro ⟨i, n, h1, h2, h3, h4⟩
      by_cases e : i = k
      · subst e
        by_cases hp : hasP (glL own st ns i) r = true
        · left
          exact (glL_mem (k := i)).1 (hasP_mem.1 hp)
        · right
          rw [h2]
          simp only [h3]
          rw [if_pos ⟨h4, by simpa using hp⟩]; simp
      · exact .inl ⟨i, n, by omega, h2, h3, h4⟩
def FGo0 (h g sb so lS cS s : Nat) (r1 r2 o1 o2 : Int) : Nat → Value → Prop
  | 0, v => v = .agg #[.int .i64 r1, .int .i64 r2]
  | 1, v => v = .pointer (some ⟨g, 9, none⟩)
  | 2, v => v = .slice (some ⟨sb, so, none⟩) lS cS
  | 3, v => v = .int .i64 (s : Int)
  | 4, v => v = .pointer (some ⟨sb, so + s * 2, none⟩)
  | 5, v => v = .agg #[.int .i64 o1, .int .i64 o2]
  | 6, v => v = .bool false
  | 7, v => v = .bool false
  | 8, v => false = true → v = undef
  | 9, v => false = true → v = undef
  | 10, v => false = true → v = undef
  | 11, v => false = true → v = undef
  | 12, v => v = .bool false
  | _, _ => True
def FGo1 (h g sb so lS cS s : Nat) (r1 r2 o1 o2 : Int) (va : Option Addr) (vl vc : Nat) (hbv : Bool) : Nat → Value → Prop
  | 0, v => v = .agg #[.int .i64 r1, .int .i64 r2]
  | 1, v => v = .pointer (some ⟨g, 9, none⟩)
  | 2, v => v = .slice (some ⟨sb, so, none⟩) lS cS
  | 3, v => v = .int .i64 (s : Int)
  | 4, v => v = .pointer (some ⟨sb, so + s * 2, none⟩)
  | 5, v => v = .agg #[.int .i64 o1, .int .i64 o2]
  | 6, v => v = .bool true
  | 7, v => v = .bool true
  | 8, v => true = true → v = .slice va vl vc
  | 9, v => true = true → v = .agg #[.int .i64 r1, .int .i64 r2]
  | 10, v => true = true → v = .bool hbv
  | 11, v => true = true → v = .bool (!hbv)
  | 12, v => v = .bool (!hbv)
  | _, _ => True
theorem iGoals (s0 s1 s2 s3 s4 sS sL : Option Addr) (l0 l1 l2 l3 l4 lS lL c0 c1 c2 c3 c4 cS cL : Nat) (W H T P s lb lo ln nc : Nat) (nv : Option Addr) (st : List (Int × Int)) (ns : List Int) (o1 o2 : Int) (w : World) (hlS : st.length = lS) (hlS2 : lS ≤ 1048576) (hs : st[s]? = some (o1, o2)) (hst : RS 2 RSpot w 0 st (.slice sS lS cS)) (hL : sL = some ⟨lb, lo, none⟩) (hsL : s < lL) (hL2 : lL ≤ 1048576) (hlc : w.cell? ⟨lb, lo + s, none⟩ = some (.slice nv ln nc)) (hln : ns.length = ln) (hln2 : ln ≤ 1048576) (hns : RS 1 RInt w 0 ns (.slice nv ln nc)) (hin : ∀ n ∈ ns, ∃ m : Nat, n = (m : Int) ∧ m < lS) :
    Calls Tryz.prog 36 #[.agg #[.slice s0 l0 c0, .slice s1 l1 c1, .slice s2 l2 c2, .slice s3 l3 c3, .slice s4 l4 c4, .int .i64 (W : Int), .int .i64 (H : Int), .int .i64 (T : Int), .int .i64 (P : Int), .slice sS lS cS, .slice sL lL cL], .int .i64 (s : Int)] w fun e w' => (∃ v gs, e = .returned v ∧ RS 2 RSpot w' 0 gs v ∧ gs.length ≤ ln ∧ ∀ r, r ∈ gs ↔ r ∈ glL (o1, o2) st ns ln) ∧ Below w.heap.size w w' := by
  subst hL
  have hsl : s < lS := by rw [← hlS]; exact (List.getElem?_eq_some_iff.1 hs).1
  have HST := hide (spot_cells hst)
  obtain ⟨sb, so, hsv, hd0, hd1⟩ := spot_cells hst s _ hs
  subst hsv
  have HNS := hide (tiles_at hns)
  have HIN := hide hin
  have HLN := hide hln
  have HLS := hide hlS
  obtain ⟨X, hX⟩ : ∃ X, X = w.alloc (.cells #[.slice s0 l0 c0, .slice s1 l1 c1, .slice s2 l2 c2, .slice s3 l3 c3, .slice s4 l4 c4, .int .i64 (W : Int), .int .i64 (H : Int), .int .i64 (T : Int), .int .i64 (P : Int), .slice (some ⟨sb, so, none⟩) lS cS, .slice (some ⟨lb, lo, none⟩) lL cL] 81) := ⟨_, rfl⟩
  have HXB := hide (show Below w.heap.size w X by rw [hX]; exact bal (brf w) _)
  have HFC : Hid (∀ V, Below X.heap.size X V → V.cell? ⟨w.heap.size, 5, none⟩ = some (.int .i64 (W : Int)) ∧ V.cell? ⟨w.heap.size, 9, none⟩ = some (.slice (some ⟨sb, so, none⟩) lS cS) ∧ V.cell? ⟨w.heap.size, 10, none⟩ = some (.slice (some ⟨lb, lo, none⟩) lL cL)) := hide (fun V hV => by
    rw [hX] at hV
    exact ⟨(new_cell hV rfl).1, (new_cell hV rfl).1, (new_cell hV rfl).1⟩)
  have HSO0 : Hid (∀ V, Below X.heap.size X V → V.cell? ⟨sb, so + s * 2, none⟩ = some (.int .i64 o1) ∧ V.cell? ⟨sb, so + s * 2 + 1, none⟩ = some (.int .i64 o2)) := hide (fun V hV => ⟨cell_later (btr (unhide HXB) hV) hd0, cell_later (btr (unhide HXB) hV) hd1⟩)
  have HSX : Hid (X.heap.size = w.heap.size + 1) := hide (by rw [hX]; simp)
  have HXX := hide hX
  obtain ⟨f5, f9, f10⟩ := unhide HFC X (brf _)
  have l0 := cell_later (unhide HXB) hlc
  rw [hX] at f5 f9 f10 l0
  have i1 : (0 : Int) ≤ (s : Int) := by omega
  have i2 : (s : Int) < (lL : Int) := by omega
  have i3 : (s : Int) < (lS : Int) := by omega
  clear hst hns hs hd0 hd1 hin hln hlS hX hlc
  go_enter Tryz.func36, Tryz.ntmps36
  go_wp2_with fail
  rw [← unhide HXX]
  clear f5 f9 f10 l0
  go_loopw [5, 16] (fun v i wr => ∃ k : Nat, k ≤ ln ∧ i = .int .i64 k ∧ OW 87 2 spC X.heap.size wr v (glL (o1, o2) st ns k) ∧ Below X.heap.size X wr) (fun _ i _ => ln - (intOf i).toNat)
  case atStart => exact ⟨0, Nat.zero_le _, rfl, OW.nil, brf _⟩
  case round =>
    obtain ⟨k, hk, rfl, hot, hb⟩ := hrel
    have HB := hide hb
    have HSZ := hide hb.size
    obtain ⟨f5, f9, f10⟩ := unhide HFC wr hb
    by_cases hlt : k < ln
    · obtain ⟨nz, hx⟩ : ∃ n, ns[k]? = some n := ⟨_, List.getElem?_eq_getElem (by rw [unhide HLN]; exact hlt)⟩
      obtain ⟨n, rfl, hnl⟩ := unhide HIN nz (List.mem_of_getElem? hx)
      obtain ⟨nb, no, rfl, hnc⟩ := unhide HNS k _ hx
      obtain ⟨⟨r1, r2⟩, hr⟩ : ∃ r, st[n]? = some r := ⟨_, List.getElem?_eq_getElem (by rw [unhide HLS]; exact hnl)⟩
      obtain ⟨sb', so', hse, hr0, hr1⟩ := unhide HST n _ hr
      injection hse with hse
      injection hse with hse1 hse2 hse3
      subst hse1 hse2
      have n0 := cell_later hb (cell_later (unhide HXB) hnc)
      have m0 := cell_later hb (cell_later (unhide HXB) hr0)
      have m1 := cell_later hb (cell_later (unhide HXB) hr1)
      have HAL := hide (Nat.le_trans (glL_len (o1, o2) st ns k) (Nat.le_trans hk hln2))
      obtain ⟨va, vc, hvs, hvc⟩ := hot.slice
      obtain ⟨vl, hvl⟩ : ∃ vl, (glL (o1, o2) st ns k).length = vl := ⟨_, rfl⟩
      rw [hvl] at hvs
      subst hvs
      have HOT := hide hot
      have hyes := glL_yes (own := (o1, o2)) hx hr
      have hno := glL_no (own := (o1, o2)) hx hr
      have HYES := hide hyes
      have HNO := hide hno
      obtain ⟨hbv, hhb⟩ : ∃ b, hasP (glL (o1, o2) st ns k) (r1, r2) = b := ⟨_, rfl⟩
      have HHB := hide hhb
      have HCO0 : Hid (∀ V, RS 2 RSpot V 0 (glL (o1, o2) st ns k) (.slice va vl vc) → Calls Tryz.prog 63 #[.slice va vl vc, .agg #[.int .i64 r1, .int .i64 r2]] V fun e w' => e = .returned (.bool hbv) ∧ Below V.heap.size V w') := hide (fun V hV => by rw [← hhb]; exact iContainsS _ r1 r2 _ V (unhide HAL) hV)
      have j1 : (0 : Int) ≤ (k : Int) := by omega
      have j2 : (k : Int) < (ln : Int) := by omega
      have j3 : (0 : Int) ≤ (n : Int) := by omega
      have j4 : (n : Int) < (lS : Int) := by omega
      have HRS := hide (hot.spots (unhide HAL))
      clear hot hb hvl hvc hyes hno hx hr hnc hr0 hr1 hhb
      obtain ⟨acc, hacc⟩ : ∃ acc, glL (o1, o2) st ns k = acc := ⟨_, rfl⟩
      rw [hacc] at HOT HRS HAL HYES HNO HCO0 HHB
      clear hacc
      go_wp2_with fail
      obtain ⟨V1, hV1⟩ : ∃ V, V = wr.alloc (.cells #[.int .i64 r1, .int .i64 r2] 87) := ⟨_, rfl⟩
      have HV1 := hide hV1
      have HB1 := hide (show Below wr.heap.size wr V1 by rw [hV1]; exact bal (brf wr) _)
      have HX1 := hide (btr (unhide HB) (unhide HB1))
      have HGC : Hid (∀ V, Below V1.heap.size V1 V → V.cell? ⟨wr.heap.size, 0, none⟩ = some (.int .i64 r1) ∧ V.cell? ⟨wr.heap.size, 1, none⟩ = some (.int .i64 r2)) := hide (fun V hV => by
        rw [hV1] at hV
        exact ⟨(new_cell hV rfl).1, (new_cell hV rfl).1⟩)
      have HSC : Hid (∀ V, Below V1.heap.size V1 V → V.cell? ⟨w.heap.size, 9, none⟩ = some (.slice (some ⟨sb, so, none⟩) lS cS)) := hide (fun V hV => (unhide HFC V (btr (unhide HX1) hV)).2.1)
      have HSO : Hid (∀ V, Below V1.heap.size V1 V → V.cell? ⟨sb, so + s * 2, none⟩ = some (.int .i64 o1) ∧ V.cell? ⟨sb, so + s * 2 + 1, none⟩ = some (.int .i64 o2)) := hide (fun V hV => unhide HSO0 V (btr (unhide HX1) hV))
      have HCO : Hid (∀ V, Below V1.heap.size V1 V → Calls Tryz.prog 63 #[.slice va vl vc, .agg #[.int .i64 r1, .int .i64 r2]] V fun e w' => e = .returned (.bool hbv) ∧ Below V.heap.size V w') := hide (fun V hV => unhide HCO0 V ((unhide HRS).later RSpot.keeps (btr (unhide HB1) hV)))
      clear hV1 n0 m0 m1 f5 f9 f10
      rw [← unhide HV1]
      by_cases he : r1 = o1 ∧ r2 = o2
      · have HQ : Hid ((decide (r1 = o1) && decide (r2 = o2)) = !false) := hide (by rw [decide_eq_true he.1, decide_eq_true he.2]; rfl)
        have HST2 := hide (unhide HNO (fun h => h.1 (by rw [he.1, he.2])))
        clear he
        refine wp_plan (GF (FGo0 wr.heap.size w.heap.size sb so lS cS s r1 r2 o1 o2)) (JB V1) (by kernel_rfl) 53 (by kernel_rfl) (by kernel_rfl) ?hj ?hs ?hf
        case hj => exact bdr (brf V1)
        case hs =>
          refine ⟨?_, ?_, ?_, ?_, ?_, ?_, ?_, ?_, ?_, ?_, ?_, ?_, ?_, trivial⟩
          · exact st_val rfl (fun l a V hp ha => ⟨.agg #[.int .i64 r1, .int .i64 r2], by
              have x8 := (ev_form a 8).trans (old hp 8 (v := .pointer (some ⟨wr.heap.size, 0, none⟩)) (by kernel_rfl) (by kernel_rfl))
              obtain ⟨k0, k1⟩ := unhide HGC V hp.j
              go_simp, rfl⟩)
          · exact st_val rfl (fun l a V hp ha => ⟨.pointer (some ⟨w.heap.size, 9, none⟩), by
              have x2 := (ev_form a 2).trans (old hp 2 (v := .pointer (some ⟨w.heap.size, 0, none⟩)) (by kernel_rfl) (by kernel_rfl))
              go_simp, rfl⟩)
          · exact st_val rfl (fun l a V hp ha => ⟨.slice (some ⟨sb, so, none⟩) lS cS, by
              have x26 := (ev_form a 26).trans (show a.eval (.tmp 26) = .pointer (some ⟨w.heap.size, 9, none⟩) from kn hp ha 26 1 (by kernel_rfl) (by kernel_rfl))
              have k0 := unhide HSC V hp.j
              go_simp, rfl⟩)
          · exact st_val rfl (fun l a V hp ha => ⟨.int .i64 (s : Int), by
              have x1 := (ev_form a 1).trans (old hp 1 (v := .int .i64 (s : Int)) (by kernel_rfl) (by kernel_rfl))
              go_simp, rfl⟩)
          · exact st_val rfl (fun l a V hp ha => ⟨.pointer (some ⟨sb, so + s * 2, none⟩), by
              have x27 := (ev_form a 27).trans (show a.eval (.tmp 27) = .slice (some ⟨sb, so, none⟩) lS cS from kn hp ha 27 2 (by kernel_rfl) (by kernel_rfl))
              have x28 := (ev_form a 28).trans (show a.eval (.tmp 28) = .int .i64 (s : Int) from kn hp ha 28 3 (by kernel_rfl) (by kernel_rfl))
              go_simp, rfl⟩)
          · exact st_val rfl (fun l a V hp ha => ⟨.agg #[.int .i64 o1, .int .i64 o2], by
              have x29 := (ev_form a 29).trans (show a.eval (.tmp 29) = .pointer (some ⟨sb, so + s * 2, none⟩) from kn hp ha 29 4 (by kernel_rfl) (by kernel_rfl))
              obtain ⟨k0, k1⟩ := unhide HSO V hp.j
              go_simp, rfl⟩)
          · exact st_val rfl (fun l a V hp ha => ⟨.bool false, by
                have x25 := (ev_form a 25).trans (show a.eval (.tmp 25) = .agg #[.int .i64 r1, .int .i64 r2] from kn hp ha 25 0 (by kernel_rfl) (by kernel_rfl))
                have x30 := (ev_form a 30).trans (show a.eval (.tmp 30) = .agg #[.int .i64 o1, .int .i64 o2] from kn hp ha 30 5 (by kernel_rfl) (by kernel_rfl))
                go_simp
                exact two_eq (f := fun z => Result.ok (Next.value (.bool (!z))) V) (unhide HQ), rfl⟩)
          · exact st_val rfl (fun l a V hp ha => ⟨.bool false, by
              have x31 := (ev_form a 31).trans (show a.eval (.tmp 31) = .bool false from kn hp ha 31 6 (by kernel_rfl) (by kernel_rfl))
              go_simp, rfl⟩)
          · exact st_valg (c := false) rfl rfl (by simp) (by kernel_rfl) (fun v h => h) (fun hn hc => absurd hc hn) (fun l a V hp ha hc => absurd hc (by decide))
          · exact st_valg (c := false) rfl rfl (by simp) (by kernel_rfl) (fun v h => h) (fun hn hc => absurd hc hn) (fun l a V hp ha hc => absurd hc (by decide))
          · exact st_callg (f := 63) (c := false) rfl rfl (by simp) (by kernel_rfl) (fun v h => h) (fun hn hc => absurd hc hn) (fun l a V hp ha hc => absurd hc (by decide))
          · exact st_valg (c := false) rfl rfl (by simp) (by kernel_rfl) (fun v h => h) (fun hn hc => absurd hc hn) (fun l a V hp ha hc => absurd hc (by decide))
          · exact st_val rfl (fun l a V hp ha => ⟨.bool false, by
                have x32 := (ev_form a 32).trans (show a.eval (.tmp 32) = .bool false from kn hp ha 32 7 (by kernel_rfl) (by kernel_rfl))
                go_simp, rfl⟩)
        case hf =>
          intro l a W1 hp hall
          have B1 : Hid (Below V1.heap.size V1 W1) := hide hp.j
          have hv37 := hp.good 12 _ 37 rfl rfl (hall 12 (by decide))
          obtain ⟨us1, rfl, hus⟩ := putAll_of [25, 26, 27, 28, 29, 30, 31, 32, 33, 34, 35, 36, 37] hp.nt hp.df (fun t ht => hp.keep t (dstIn (by kernel_rfl) ht))
          have hw37 : us1 37 = .bool false := by rw [hus 37]; exact hv37
          clear hp hall hus hv37
          simp only [putAll, List.foldl, Act.put, List.setIfInBounds_toArray, List.set_cons_zero, List.set_cons_succ, hw37]
          have HOT2 := hide ((unhide HOT).later (btr (unhide HB1) (unhide B1)))
          have HB3 := hide (btr (unhide HX1) (unhide B1))
          go_wp2_with fail
          go_roundw
          case rel => exact ⟨k + 1, by omega, by go_num, by rw [unhide HST2]; exact unhide HOT2, unhide HB3⟩
          case measure => simp [intOf]; omega
      · have HQ : Hid ((decide (r1 = o1) && decide (r2 = o2)) = !true) := hide (by
          rw [← Bool.decide_and, decide_eq_false he]; rfl)
        have HQ2 : Hid (r1 = o1 → ¬ r2 = o2) := hide (fun h1 h2 => he ⟨h1, h2⟩)
        have HNE : Hid ((r1, r2) ≠ (o1, o2)) := hide (fun h => he (by injection h with a b; exact ⟨a, b⟩))
        clear he
        refine wp_plan (GF (FGo1 wr.heap.size w.heap.size sb so lS cS s r1 r2 o1 o2 va vl vc hbv)) (JB V1) (by kernel_rfl) 53 (by kernel_rfl) (by kernel_rfl) ?hj ?hs ?hf
        case hj => exact bdr (brf V1)
        case hs =>
          refine ⟨?_, ?_, ?_, ?_, ?_, ?_, ?_, ?_, ?_, ?_, ?_, ?_, ?_, trivial⟩
          · exact st_val rfl (fun l a V hp ha => ⟨.agg #[.int .i64 r1, .int .i64 r2], by
              have x8 := (ev_form a 8).trans (old hp 8 (v := .pointer (some ⟨wr.heap.size, 0, none⟩)) (by kernel_rfl) (by kernel_rfl))
              obtain ⟨k0, k1⟩ := unhide HGC V hp.j
              go_simp, rfl⟩)
          · exact st_val rfl (fun l a V hp ha => ⟨.pointer (some ⟨w.heap.size, 9, none⟩), by
              have x2 := (ev_form a 2).trans (old hp 2 (v := .pointer (some ⟨w.heap.size, 0, none⟩)) (by kernel_rfl) (by kernel_rfl))
              go_simp, rfl⟩)
          · exact st_val rfl (fun l a V hp ha => ⟨.slice (some ⟨sb, so, none⟩) lS cS, by
              have x26 := (ev_form a 26).trans (show a.eval (.tmp 26) = .pointer (some ⟨w.heap.size, 9, none⟩) from kn hp ha 26 1 (by kernel_rfl) (by kernel_rfl))
              have k0 := unhide HSC V hp.j
              go_simp, rfl⟩)
          · exact st_val rfl (fun l a V hp ha => ⟨.int .i64 (s : Int), by
              have x1 := (ev_form a 1).trans (old hp 1 (v := .int .i64 (s : Int)) (by kernel_rfl) (by kernel_rfl))
              go_simp, rfl⟩)
          · exact st_val rfl (fun l a V hp ha => ⟨.pointer (some ⟨sb, so + s * 2, none⟩), by
              have x27 := (ev_form a 27).trans (show a.eval (.tmp 27) = .slice (some ⟨sb, so, none⟩) lS cS from kn hp ha 27 2 (by kernel_rfl) (by kernel_rfl))
              have x28 := (ev_form a 28).trans (show a.eval (.tmp 28) = .int .i64 (s : Int) from kn hp ha 28 3 (by kernel_rfl) (by kernel_rfl))
              go_simp, rfl⟩)
          · exact st_val rfl (fun l a V hp ha => ⟨.agg #[.int .i64 o1, .int .i64 o2], by
              have x29 := (ev_form a 29).trans (show a.eval (.tmp 29) = .pointer (some ⟨sb, so + s * 2, none⟩) from kn hp ha 29 4 (by kernel_rfl) (by kernel_rfl))
              obtain ⟨k0, k1⟩ := unhide HSO V hp.j
              go_simp, rfl⟩)
          · exact st_val rfl (fun l a V hp ha => ⟨.bool true, by
                have x25 := (ev_form a 25).trans (show a.eval (.tmp 25) = .agg #[.int .i64 r1, .int .i64 r2] from kn hp ha 25 0 (by kernel_rfl) (by kernel_rfl))
                have x30 := (ev_form a 30).trans (show a.eval (.tmp 30) = .agg #[.int .i64 o1, .int .i64 o2] from kn hp ha 30 5 (by kernel_rfl) (by kernel_rfl))
                go_simp
                exact unhide HQ2, rfl⟩)
          · exact st_val rfl (fun l a V hp ha => ⟨.bool true, by
              have x31 := (ev_form a 31).trans (show a.eval (.tmp 31) = .bool true from kn hp ha 31 6 (by kernel_rfl) (by kernel_rfl))
              go_simp, rfl⟩)
          · exact st_valg (c := true) rfl rfl (by simp) (by kernel_rfl) (fun v h => h) (fun hn hc => absurd hc hn) (fun l a V hp ha hc => ⟨.slice va vl vc, by
              have x5 := (ev_form a 5).trans (old hp 5 (v := .slice va vl vc) (by kernel_rfl) (by kernel_rfl))
              go_simp, fun _ => rfl⟩)
          · exact st_valg (c := true) rfl rfl (by simp) (by kernel_rfl) (fun v h => h) (fun hn hc => absurd hc hn) (fun l a V hp ha hc => ⟨.agg #[.int .i64 r1, .int .i64 r2], by
              have x8 := (ev_form a 8).trans (old hp 8 (v := .pointer (some ⟨wr.heap.size, 0, none⟩)) (by kernel_rfl) (by kernel_rfl))
              obtain ⟨k0, k1⟩ := unhide HGC V hp.j
              go_simp, fun _ => rfl⟩)
          · exact st_callg (f := 63) (c := true) rfl rfl (by simp) (by kernel_rfl) (fun v h => h) (fun hn hc => absurd hc hn) (fun l a V hp ha hc => ⟨#[.slice va vl vc, .agg #[.int .i64 r1, .int .i64 r2]], by
              have x33 := (ev_form a 33).trans (show a.eval (.tmp 33) = .slice va vl vc from (kn hp ha 33 8 (by kernel_rfl) (by kernel_rfl)) hc)
              have x34 := (ev_form a 34).trans (show a.eval (.tmp 34) = .agg #[.int .i64 r1, .int .i64 r2] from (kn hp ha 34 9 (by kernel_rfl) (by kernel_rfl)) hc)
              go_simp, (unhide HCO V hp.j).mono (by rintro e V1 ⟨rfl, hb⟩; exact ⟨_, rfl, fun _ => rfl, hb⟩)⟩)
          · exact st_valg (c := true) rfl rfl (by simp) (by kernel_rfl) (fun v h => h) (fun hn hc => absurd hc hn) (fun l a V hp ha hc => ⟨.bool (!hbv), by
              have x35 := (ev_form a 35).trans (show a.eval (.tmp 35) = .bool hbv from (kn hp ha 35 10 (by kernel_rfl) (by kernel_rfl)) hc)
              go_simp, fun _ => rfl⟩)
          · exact st_val rfl (fun l a V hp ha => ⟨.bool (!hbv), by
                have x32 := (ev_form a 32).trans (show a.eval (.tmp 32) = .bool true from kn hp ha 32 7 (by kernel_rfl) (by kernel_rfl))
                have x36 := (ev_form a 36).trans (show a.eval (.tmp 36) = .bool (!hbv) from (kn hp ha 36 11 (by kernel_rfl) (by kernel_rfl)) rfl)
                go_simp, rfl⟩)
        case hf =>
          intro l a W1 hp hall
          have B1 : Hid (Below V1.heap.size V1 W1) := hide hp.j
          have hv37 := hp.good 12 _ 37 rfl rfl (hall 12 (by decide))
          obtain ⟨us1, rfl, hus⟩ := putAll_of [25, 26, 27, 28, 29, 30, 31, 32, 33, 34, 35, 36, 37] hp.nt hp.df (fun t ht => hp.keep t (dstIn (by kernel_rfl) ht))
          have hw37 : us1 37 = .bool (!hbv) := by rw [hus 37]; exact hv37
          clear hp hall hus hv37
          simp only [putAll, List.foldl, Act.put, List.setIfInBounds_toArray, List.set_cons_zero, List.set_cons_succ, hw37]
          have HOT2 := hide ((unhide HOT).later (btr (unhide HB1) (unhide B1)))
          have HB3 := hide (btr (unhide HX1) (unhide B1))
          obtain ⟨g0, g1⟩ := unhide HGC W1 (unhide B1)
          cases hbv
          · have HST2 := hide (unhide HYES (unhide HNE) (unhide HHB))
            have HSZ3 := hide (unhide HB3).size
            go_wp2_with (first
              | (at_builtin; refine wpAppOne spZ Tryz.underlying78 info87 rfl (by decide) (by decide) spC_len spC_one rfl _ _ rfl X.heap.size (.slice va vl vc) acc (r1, r2) W1.heap.size rfl ((unhide HOT2).later (bal (brf _) _)) rfl (new_at W1 (spC (r1, r2)) 87) (by have := unhide HAL; omega) (by have := unhide HSZ3; simp; omega) ?_; intro v' w3 hown' hgrow)
              | fail)
            have HR3 := hide hown'
            have HB4 := hide (below_grown (bal (unhide HB3) (.cells #[.int .i64 r1, .int .i64 r2] 87)) hgrow (by have := unhide HSZ3; simp; omega) (unhide HOT2).row)
            clear hown' hgrow
            go_roundw
            case rel => exact ⟨k + 1, by omega, by go_num, by rw [unhide HST2]; exact unhide HR3, unhide HB4⟩
            case measure => simp [intOf]; omega
          · have HST2 := hide (unhide HNO (fun h => by rw [unhide HHB] at h; cases h.2))
            go_wp2_with fail
            go_roundw
            case rel => exact ⟨k + 1, by omega, by go_num, by rw [unhide HST2]; exact unhide HOT2, unhide HB3⟩
            case measure => simp [intOf]; omega
    · obtain rfl : k = ln := by omega
      have HOT := hide hot
      have HLN2 := hide (glL_len (o1, o2) st ns k)
      clear hot hb
      obtain ⟨gs, hgs⟩ : ∃ gs, glL (o1, o2) st ns k = gs := ⟨_, rfl⟩
      rw [hgs] at HOT HLN2
      have HSRT := hide (sort5 wr X.heap.size w.heap.size (W : Int) gs u5 (unhide HOT) (by have := unhide HLN2; omega) (by have := unhide HSX; omega) (unhide HSZ) f5)
      have HLG := hide (show gs.length ≤ k from unhide HLN2)
      clear f9 f10
      go_wp2_with fail
      refine (iByNumA _ _).mono ?_
      rintro e V ⟨rfl, rfl⟩
      go_wp2_with fail
      refine (iByNumB _).mono ?_
      rintro e V ⟨rfl, rfl⟩
      go_wp2_with fail
      refine (iByNumC _).mono ?_
      rintro e V ⟨rfl, rfl⟩
      go_wp2_with fail
      refine (iInOrders _ _ _ _).mono ?_
      rintro e V ⟨rfl, rfl⟩
      go_wp2_with fail
      refine Go.Calls.mono (unhide HSRT) ?_
      rintro e V ⟨rfl, ⟨ys, hp, hys⟩, hbz⟩
      go_wp2_with fail
      refine bodyPost_ret (v := u5) (by simp [results, Tryz.results36, go_sem]) rfl ⟨⟨u5, ys, rfl, hys, by rw [hp.length_eq]; exact unhide HLG, fun r => by rw [hgs]; exact hp.mem_iff⟩, ?_⟩
      exact (unhide HXB).trans ((unhide HB).mono (unhide HXB).size |>.trans (hbz.mono (by have := unhide HSX; omega)))
end Go.Proofs.YtlldfaniddbjaaaGreatDoor
