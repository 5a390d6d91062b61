/- settle: each and, one behind another. -/
import Derived.Test.YtaamibonpmijaaaGreatQa
import Derived.Test.YtaamibonpmijaaaGreatRWa
import Derived.Test.YtaamibonpmijaaaGreatMa
namespace Go.Proofs.YtaamibonpmijaaaGreat
open Go Go.RowKit Gs
set_option linter.unusedVariables false
set_option linter.unusedSimpArgs false
set_option maxRecDepth 100000
def FQ4 (b g n FA k p : Nat) (za zb : Int) (A C : Bool) : Nat → Value → Prop
  | 0, v => v = .pointer (some ⟨b, 0, none⟩)
  | 1, v => v = .pointer (some ⟨b, 0, none⟩)
  | 2, v => v = .pointer (some ⟨b, 6, none⟩)
  | 3, v => v = .slice (some ⟨g, 0, none⟩) n n
  | 4, v => v = .int .i64 (FA : Int)
  | 5, v => v = .int .i64 (k : Int)
  | 6, v => v = .int .i64 ((FA : Int) + (k : Int))
  | 7, v => v = .pointer (some ⟨b, 0, none⟩)
  | 8, v => v = .pointer (some ⟨p, 0, none⟩)
  | 9, v => v = .int .i64 za
  | 10, v => v = .bool A
  | 11, v => v = .bool A
  | 12, v => A = true → v = .pointer (some ⟨b, 0, none⟩)
  | 13, v => A = true → v = .pointer (some ⟨p, 1, none⟩)
  | 14, v => A = true → v = .int .i64 zb
  | 15, v => A = true → v = .bool C
  | 16, v => v = .bool (A && C)
  | 17, v => v = .pointer (some ⟨g, FA + k, none⟩)
  | 18, v => True
  | _, _ => True
/-- The ands' literals stand ahead of them. -/
def AO (FA : Nat) (xs : List AndG) : Prop := ∀ (i : Nat) x, xs[i]? = some x → 0 ≤ x.a ∧ x.a < 2 * ((FA + i : Nat) : Int) ∧ 0 ≤ x.b ∧ x.b < 2 * ((FA + i : Nat) : Int)
set_option maxHeartbeats 16000000 in
theorem iSettle {b g l0 l2 c0 c2 : Nat} {s0 s2 : Option Addr} {W0 W : World} {p1 p4 p5 v3 : Value} {base junk : List Bool} (h : Ob W0.heap.size W b g [.slice s0 l0 c0, p1, .slice s2 l2 c2, v3, p4, p5] (base ++ junk)) (xs : List AndG) (hr : RS 2 RAndG W0 0 xs v3) (hB : Below W0.heap.size W0 W)
    (hl0 : l0 ≤ 1048576) (hl2 : l2 ≤ 1048576) (hl3 : xs.length ≤ 1048576) (hbl : base.length = 1 + l0 + l2) (hjl : junk.length = xs.length) (hao : AO base.length xs) :
    Calls Tryz.prog 119 #[.pointer (some ⟨b, 0, none⟩)] W fun e w' => e = .returned (.tuple #[]) ∧ Ob W0.heap.size w' b g [.slice s0 l0 c0, p1, .slice s2 l2 c2, v3, p4, p5] (andsV base xs) ∧ Fx g W w' := by
  obtain ⟨s3, c3, rfl⟩ := hr.slice
  have HCS : Hid (∀ (i : Nat) x, xs[i]? = some x → ∃ b o, s3 = some ⟨b, o, none⟩ ∧ W0.cell? ⟨b, o + i * 2, none⟩ = some (.int .i64 x.a) ∧ W0.cell? ⟨b, o + i * 2 + 1, none⟩ = some (.int .i64 x.b)) := hide (by
    intro i x hx
    rcases hr.open with ⟨rfl, _⟩ | ⟨b, o, c', hv, _, _, _, he⟩
    · simp at hx
    · injection hv with e1 e2 e3
      obtain ⟨u, hu, hat, hux⟩ := he i x hx
      subst hux
      exact ⟨b, o, e1, by simpa using hat.get (j := 0) rfl, by simpa using hat.get (j := 1) rfl⟩)
  clear hr
  have HFI := hide (iFirst s0 s2 l0 l2 c0 c2 p1 (.slice s3 xs.length c3) p4 p5 W hl0 hl2)
  obtain ⟨q0, q1, q2, q3, q4, q5, q6⟩ := h.cells
  rw [← hbl] at HFI
  have HAO := hide hao
  obtain ⟨FA, hFA⟩ : ∃ FA : Nat, FA = base.length := ⟨_, rfl⟩
  rw [← hFA] at HFI HAO hbl
  have hFb : FA ≤ 2097153 := by omega
  have HFA := hide hFA
  have HBL := hide hbl
  clear hao hFA hbl
  have HH := hide h
  have HB := hide hB
  clear h hB
  go_enter Tryz.func119, Tryz.ntmps119
  go_wp2_with fail
  refine (unhide HFI).mono ?_
  rintro e W1 ⟨rfl, hb1⟩
  have HB1 := hide hb1
  have k0 := cell_later hb1 q0
  have k1 := cell_later hb1 q1
  have k2 := cell_later hb1 q2
  have k3 := cell_later hb1 q3
  clear hb1 q0 q1 q2 q3 q4 q5 q6 HFI
  go_wp2_with fail
  clear k0 k1 k2 k3
  go_loopw [16] (fun i wr => ∃ k : Nat, k ≤ xs.length ∧ i = .int .i64 k ∧ Ob W0.heap.size wr b g [.slice s0 l0 c0, p1, .slice s2 l2 c2, .slice s3 xs.length c3, p4, p5] (andsV base (xs.take k) ++ junk.drop k) ∧ Fx g W wr) (fun i wr => xs.length - (intOf i).toNat)
  case atStart => exact ⟨0, Nat.zero_le _, rfl, (unhide HH).later (unhide HB1), Fx.of (unhide HB1)⟩
  case round =>
    obtain ⟨k, hk, rfl, ho, hf⟩ := hrel
    by_cases hlt : k < xs.length
    · have hx : xs[k]? = some xs[k] := List.getElem?_eq_getElem hlt
      generalize xs[k] = x at hx
      obtain ⟨bb, oo, rfl, hc0, hc1⟩ := unhide HCS k x hx
      obtain ⟨ha1, ha2, hb1, hb2⟩ := unhide HAO k x hx
      have hbw : Below W0.heap.size W0 wr := hf.below (unhide HB) (unhide HH).hg (by have := (unhide HB).size; omega)
      have k0 := cell_later hbw hc0
      have k1 := cell_later hbw hc1
      have hal : (andsV base (xs.take k)).length = FA + k := by rw [andsV_len, List.length_take, unhide HFA]; omega
      have hlen : (andsV base (xs.take k) ++ junk.drop k).length = FA + xs.length := by rw [List.length_append, hal, List.length_drop]; omega
      obtain ⟨B1, hW1⟩ : ∃ B1, B1 = wr.alloc (.cells #[.int .i64 x.a, .int .i64 x.b] 105) := ⟨_, rfl⟩
      have hbB : Below wr.heap.size wr B1 := by rw [hW1]; exact bal (brf wr) _
      have hoB := ho.later hbB
      obtain ⟨_, _, _, _, _, _, q6⟩ := hoB.cells
      rw [hlen] at q6
      have H6 := hide q6
      have HA0 := hide (show B1.cell? ⟨wr.heap.size, 0, none⟩ = some (.int .i64 x.a) by rw [hW1, World.cell?_alloc_new]; rfl)
      have HA1 := hide (show B1.cell? ⟨wr.heap.size, 1, none⟩ = some (.int .i64 x.b) by rw [hW1, World.cell?_alloc_new]; rfl)
      have HCA : Hid (∀ V, Below B1.heap.size B1 V → Calls Tryz.prog 124 #[.pointer (some ⟨b, 0, none⟩), .int .i64 x.a] V fun e w' => e = .returned (.bool (litV (andsV base (xs.take k)) x.a)) ∧ Below V.heap.size V w') := hide (fun V hV => by
        refine (iHolds (hoB.later hV) x.a ha1 (by rw [hlen]; omega) (by rw [hlen]; omega)).mono ?_
        rintro e w' ⟨rfl, rfl⟩
        exact ⟨by rw [litV_pre (by rw [hal]; exact ha2) ha1], brf _⟩)
      have HCB : Hid (∀ V, Below B1.heap.size B1 V → Calls Tryz.prog 124 #[.pointer (some ⟨b, 0, none⟩), .int .i64 x.b] V fun e w' => e = .returned (.bool (litV (andsV base (xs.take k)) x.b)) ∧ Below V.heap.size V w') := hide (fun V hV => by
        refine (iHolds (hoB.later hV) x.b hb1 (by rw [hlen]; omega) (by rw [hlen]; omega)).mono ?_
        rintro e w' ⟨rfl, rfl⟩
        exact ⟨by rw [litV_pre (by rw [hal]; exact hb2) hb1], brf _⟩)
      have HY : Hid (∃ y, B1.cell? ⟨g, FA + k, none⟩ = some (.bool y) ∧ B1.frozen? ⟨g, FA + k, none⟩ = false) := hide (by
        have hl3 : FA + k < (andsV base (xs.take k) ++ junk.drop k).length := by rw [hlen]; omega
        exact ⟨_, hoB.vals (FA + k) _ (List.getElem?_eq_getElem hl3)⟩)
      have HST : Hid (∀ y, y = (litV (andsV base (xs.take k)) x.a && litV (andsV base (xs.take k)) x.b) → (andsV base (xs.take k) ++ junk.drop k).set (FA + k) y = andsV base (xs.take (k + 1)) ++ junk.drop (k + 1)) := hide (by
        rintro y rfl
        rw [andsV_step base hx, List.set_append_right _ _ (by omega), hal, Nat.sub_self, List.drop_eq_getElem_cons (by omega : k < junk.length), List.set_cons_zero, List.append_assoc]
        rfl)
      have HO := hide hoB
      have HF := hide (hf.trans (Fx.of (g := g) hbB))
      have HW1 := hide hW1
      have i1 : (FA : Int) + (k : Int) < ((FA + xs.length : Nat) : Int) := by omega
      have i0 : (0 : Int) ≤ (FA : Int) + (k : Int) := by omega
      clear ho hf hbw hc0 hc1 HCS hx hlen hal hbB hoB q6 hW1 ha1 ha2 hb1 hb2
      generalize x.a = za at *
      generalize x.b = zb at *
      generalize litV (andsV base (xs.take k)) za = A at *
      generalize litV (andsV base (xs.take k)) zb = C at *
      generalize FA + xs.length = n at *
      go_wp2_with fail
      rw [← unhide HW1]
      clear k0 k1
      refine wp_plan (GF (FQ4 b g n FA k wr.heap.size za zb A C)) (JE B1 18 (fun V => ∃ V0, Below B1.heap.size B1 V0 ∧ V = V0.setCell ⟨g, FA + k, none⟩ (.bool (A && C)))) (by kernel_rfl) 40 (by kernel_rfl) (by kernel_rfl) ?hj ?hs ?hf
      case hj => exact JE.start (bdr (brf B1))
      case hs =>
        refine ⟨?_, ?_, ?_, ?_, ?_, ?_, ?_, ?_, ?_, ?_, ?_, ?_, ?_, ?_, ?_, ?_, ?_, ?_, ?_, trivial⟩
        · exact se_val (by decide) (by kernel_rfl) rfl (fun l a V hp hB ha => ⟨.pointer (some ⟨b, 0, none⟩), by
            have x0 := (ev_form a 0).trans (old hp 0 (v := .pointer (some ⟨b, 0, none⟩)) (by kernel_rfl) (by kernel_rfl))
            go_simp, rfl⟩)
        · exact se_val (by decide) (by kernel_rfl) rfl (fun l a V hp hB ha => ⟨.pointer (some ⟨b, 0, none⟩), by
            have x21 := (ev_form a 21).trans (show a.eval (.tmp 21) = .pointer (some ⟨b, 0, none⟩) from kn hp ha 21 0 (by kernel_rfl) (by kernel_rfl))
            go_simp, rfl⟩)
        · exact se_val (by decide) (by kernel_rfl) rfl (fun l a V hp hB ha => ⟨.pointer (some ⟨b, 6, none⟩), by
            have x22 := (ev_form a 22).trans (show a.eval (.tmp 22) = .pointer (some ⟨b, 0, none⟩) from kn hp ha 22 1 (by kernel_rfl) (by kernel_rfl))
            go_simp, rfl⟩)
        · exact se_val (by decide) (by kernel_rfl) rfl (fun l a V hp hB ha => ⟨.slice (some ⟨g, 0, none⟩) n n, by
            have x23 := (ev_form a 23).trans (show a.eval (.tmp 23) = .pointer (some ⟨b, 6, none⟩) from kn hp ha 23 2 (by kernel_rfl) (by kernel_rfl))
            have m6 := cell_later hB (unhide H6)
            go_simp, rfl⟩)
        · exact se_val (by decide) (by kernel_rfl) rfl (fun l a V hp hB ha => ⟨.int .i64 (FA : Int), by
            have x2 := (ev_form a 2).trans (old hp 2 (v := .int .i64 (FA : Int)) (by kernel_rfl) (by kernel_rfl))
            go_simp, rfl⟩)
        · exact se_val (by decide) (by kernel_rfl) rfl (fun l a V hp hB ha => ⟨.int .i64 (k : Int), by
            have x3 := (ev_form a 3).trans (old hp 3 (v := .int .i64 (k : Int)) (by kernel_rfl) (by kernel_rfl))
            go_simp, rfl⟩)
        · exact se_val (by decide) (by kernel_rfl) rfl (fun l a V hp hB ha => ⟨.int .i64 ((FA : Int) + (k : Int)), by
            have x25 := (ev_form a 25).trans (show a.eval (.tmp 25) = .int .i64 (FA : Int) from kn hp ha 25 4 (by kernel_rfl) (by kernel_rfl))
            have x26 := (ev_form a 26).trans (show a.eval (.tmp 26) = .int .i64 (k : Int) from kn hp ha 26 5 (by kernel_rfl) (by kernel_rfl))
            have hw : IntKind.i64.wrap ((FA : Int) + (k : Int)) = (FA : Int) + (k : Int) := by rw [IntKind.wrap_i64]; omega
            go_simp, rfl⟩)
        · exact se_val (by decide) (by kernel_rfl) rfl (fun l a V hp hB ha => ⟨.pointer (some ⟨b, 0, none⟩), by
            have x0 := (ev_form a 0).trans (old hp 0 (v := .pointer (some ⟨b, 0, none⟩)) (by kernel_rfl) (by kernel_rfl))
            go_simp, rfl⟩)
        · exact se_val (by decide) (by kernel_rfl) rfl (fun l a V hp hB ha => ⟨.pointer (some ⟨wr.heap.size, 0, none⟩), by
            have x4 := (ev_form a 4).trans (old hp 4 (v := .pointer (some ⟨wr.heap.size, 0, none⟩)) (by kernel_rfl) (by kernel_rfl))
            go_simp, rfl⟩)
        · exact se_val (by decide) (by kernel_rfl) rfl (fun l a V hp hB ha => ⟨.int .i64 za, by
            have x29 := (ev_form a 29).trans (show a.eval (.tmp 29) = .pointer (some ⟨wr.heap.size, 0, none⟩) from kn hp ha 29 8 (by kernel_rfl) (by kernel_rfl))
            have m0 := cell_later hB (unhide HA0)
            go_simp, rfl⟩)
        · exact se_call (f := 124) (by decide) (by kernel_rfl) rfl (fun l a V hp hB ha => ⟨#[.pointer (some ⟨b, 0, none⟩), .int .i64 za], by
            have x28 := (ev_form a 28).trans (show a.eval (.tmp 28) = .pointer (some ⟨b, 0, none⟩) from kn hp ha 28 7 (by kernel_rfl) (by kernel_rfl))
            have x30 := (ev_form a 30).trans (show a.eval (.tmp 30) = .int .i64 za from kn hp ha 30 9 (by kernel_rfl) (by kernel_rfl))
            go_simp, (unhide HCA V hB).mono (by rintro e V1 ⟨rfl, hb⟩; exact ⟨_, rfl, rfl, hb⟩)⟩)
        · exact se_val (by decide) (by kernel_rfl) rfl (fun l a V hp hB ha => ⟨.bool A, by
            have x31 := (ev_form a 31).trans (show a.eval (.tmp 31) = .bool A from kn hp ha 31 10 (by kernel_rfl) (by kernel_rfl))
            go_simp, rfl⟩)
        · exact se_valg (c := A) (by decide) (by kernel_rfl) rfl rfl (by simp) (by kernel_rfl) (fun v h => h) (fun hn hc => absurd hc hn) (fun l a V hp hB ha hc => ⟨.pointer (some ⟨b, 0, none⟩), by
            have x0 := (ev_form a 0).trans (old hp 0 (v := .pointer (some ⟨b, 0, none⟩)) (by kernel_rfl) (by kernel_rfl))
            go_simp, fun _ => rfl⟩)
        · exact se_valg (c := A) (by decide) (by kernel_rfl) rfl rfl (by simp) (by kernel_rfl) (fun v h => h) (fun hn hc => absurd hc hn) (fun l a V hp hB ha hc => ⟨.pointer (some ⟨wr.heap.size, 1, none⟩), by
            have x4 := (ev_form a 4).trans (old hp 4 (v := .pointer (some ⟨wr.heap.size, 0, none⟩)) (by kernel_rfl) (by kernel_rfl))
            go_simp, fun _ => rfl⟩)
        · exact se_valg (c := A) (by decide) (by kernel_rfl) rfl rfl (by simp) (by kernel_rfl) (fun v h => h) (fun hn hc => absurd hc hn) (fun l a V hp hB ha hc => ⟨.int .i64 zb, by
            have x34 := (ev_form a 34).trans (show a.eval (.tmp 34) = .pointer (some ⟨wr.heap.size, 1, none⟩) from (kn hp ha 34 13 (by kernel_rfl) (by kernel_rfl)) hc)
            have m0 := cell_later hB (unhide HA1)
            go_simp, fun _ => rfl⟩)
        · exact se_callg (f := 124) (c := A) (by decide) (by kernel_rfl) rfl rfl (by simp) (by kernel_rfl) (fun v h => h) (fun hn hc => absurd hc hn) (fun l a V hp hB ha hc => ⟨#[.pointer (some ⟨b, 0, none⟩), .int .i64 zb], by
            have x33 := (ev_form a 33).trans (show a.eval (.tmp 33) = .pointer (some ⟨b, 0, none⟩) from (kn hp ha 33 12 (by kernel_rfl) (by kernel_rfl)) hc)
            have x35 := (ev_form a 35).trans (show a.eval (.tmp 35) = .int .i64 zb from (kn hp ha 35 14 (by kernel_rfl) (by kernel_rfl)) hc)
            go_simp, (unhide HCB V hB).mono (by rintro e V1 ⟨rfl, hb⟩; exact ⟨_, rfl, fun _ => rfl, hb⟩)⟩)
        · refine se_val (by decide) (by kernel_rfl) rfl (fun l a V hp hB ha => ?_)
          have x32 := (ev_form a 32).trans (show a.eval (.tmp 32) = .bool A from kn hp ha 32 11 (by kernel_rfl) (by kernel_rfl))
          have k36 := kn hp ha 36 15 (by kernel_rfl) (by kernel_rfl)
          cases A with
          | false => exact ⟨.bool false, by go_simp, rfl⟩
          | true =>
            have x36 := (ev_form a 36).trans (show a.eval (.tmp 36) = .bool C from k36 rfl)
            exact ⟨.bool C, by go_simp, rfl⟩
        · exact se_val (by decide) (by kernel_rfl) rfl (fun l a V hp hB ha => ⟨.pointer (some ⟨g, FA + k, none⟩), by
            have x24 := (ev_form a 24).trans (show a.eval (.tmp 24) = .slice (some ⟨g, 0, none⟩) n n from kn hp ha 24 3 (by kernel_rfl) (by kernel_rfl))
            have x27 := (ev_form a 27).trans (show a.eval (.tmp 27) = .int .i64 ((FA : Int) + (k : Int)) from kn hp ha 27 6 (by kernel_rfl) (by kernel_rfl))
            go_simp, rfl⟩)
        · refine se_last rfl (fun l a V hp hB ha => ?_) trivial
          have x38 := (ev_form a 38).trans (show a.eval (.tmp 38) = .pointer (some ⟨g, FA + k, none⟩) from kn hp ha 38 17 (by kernel_rfl) (by kernel_rfl))
          have x37 := (ev_form a 37).trans (show a.eval (.tmp 37) = .bool (A && C) from kn hp ha 37 16 (by kernel_rfl) (by kernel_rfl))
          obtain ⟨y, hy, hfz⟩ := unhide HY
          have m1 := cell_later hB hy
          have m2 := frozen_later hB hy hfz
          exact ⟨V.setCell ⟨g, FA + k, none⟩ (.bool (A && C)), by go_simp, ⟨V, hB, rfl⟩⟩
      case hf =>
        intro l a V hp hall
        obtain ⟨V0, hV0, hV⟩ := hp.j.2 (hall 18 (by decide))
        obtain ⟨us, rfl, hus⟩ := putAll_of [21, 22, 23, 24, 25, 26, 27, 28, 29, 30, 31, 32, 33, 34, 35, 36, 37, 38] hp.nt hp.df (fun t ht => hp.keep t (dstIn (by kernel_rfl) ht))
        clear hp hall hus
        simp only [putAll, List.foldl, Act.put, List.setIfInBounds_toArray, List.set_cons_zero, List.set_cons_succ]
        generalize us 21 = y21 at *
        generalize us 22 = y22 at *
        generalize us 23 = y23 at *
        generalize us 24 = y24 at *
        generalize us 25 = y25 at *
        generalize us 26 = y26 at *
        generalize us 27 = y27 at *
        generalize us 28 = y28 at *
        generalize us 29 = y29 at *
        generalize us 30 = y30 at *
        generalize us 31 = y31 at *
        generalize us 32 = y32 at *
        generalize us 33 = y33 at *
        generalize us 34 = y34 at *
        generalize us 35 = y35 at *
        generalize us 36 = y36 at *
        generalize us 37 = y37 at *
        generalize us 38 = y38 at *
        have HO2 := hide (((unhide HO).later hV0).set (FA + k) (A && C))
        have HF2 := hide (((unhide HF).trans (Fx.of (g := g) hV0)).trans (Fx.set g (FA + k) V0 (.bool (A && C))))
        rw [← hV] at HO2 HF2
        clear hV hV0 HO HF
        go_wp2_with fail
        go_roundw
        case rel => exact ⟨k + 1, by omega, by go_num, by rw [← unhide HST _ rfl]; exact unhide HO2, unhide HF2⟩
        case measure => simp [intOf]; omega
    · obtain rfl : k = xs.length := by omega
      rw [List.take_of_length_le (Nat.le_refl _), List.drop_eq_nil_of_le (by omega), List.append_nil] at ho
      have HO := hide ho
      have HF := hide hf
      clear ho hf HCS
      go_wp2
      exact bodyPost_end (v := .tuple #[]) (by simp [results, Tryz.results119, go_sem]) rfl ⟨rfl, unhide HO, unhide HF⟩
end Go.Proofs.YtaamibonpmijaaaGreat
