/- The specification's AigBytes. -/
import Derived.Test.YtaamibonpmijaabSBa
namespace Go.Proofs.Ytaamibonpmijaab
open Go Go.RowKit Gs
set_option linter.unusedVariables false
set_option linter.unusedSimpArgs false
set_option maxRecDepth 100000
set_option maxHeartbeats 64000000 in
theorem sAigBytes (g : Aig) (u : List Value) (w : World) (hl : szAig g ≤ 1048576) (hr : RAig w 0 g u) :
    Calls Try.prog 5 #[.agg u.toArray] w fun e w' => (∃ v', e = .returned (.tuple #[v', .int .i64 (ansB (aigS g) (bytesA g)).2]) ∧ OB w.heap.size w' v' (ansB (aigS g) (bytesA g)).1) ∧ Below w.heap.size w w' := by
  have HOK := hide (fun (V : World) (hb : Below w.heap.size w V) => sAigOK g u V hl (hr.later hb))
  have HGD : Hid (aigS g = true → Good g) := hide (fun h => good_of (by rw [aig_same]; exact h))
  obtain ⟨v0, v1, v2, v3, v4, v5, rfl, h0, h1, h2, h3, h4, h5⟩ := hr
  obtain ⟨s0, c0, rfl⟩ := h0.slice
  obtain ⟨s1, c1, rfl⟩ := h1.slice
  obtain ⟨s2, c2, rfl⟩ := h2.slice
  obtain ⟨s3, c3, rfl⟩ := h3.slice
  obtain ⟨s4, c4, rfl⟩ := h4.slice
  obtain ⟨s5, c5, rfl⟩ := h5.slice
  obtain ⟨l0, e0⟩ : ∃ l, g.ins.length = l := ⟨_, rfl⟩
  rw [e0] at h0 HOK ⊢
  obtain ⟨l1, e1⟩ : ∃ l, g.clocks.length = l := ⟨_, rfl⟩
  rw [e1] at h1 HOK ⊢
  obtain ⟨l2, e2⟩ : ∃ l, g.latches.length = l := ⟨_, rfl⟩
  rw [e2] at h2 HOK ⊢
  obtain ⟨l3, e3⟩ : ∃ l, g.ands.length = l := ⟨_, rfl⟩
  rw [e3] at h3 HOK ⊢
  obtain ⟨l4, e4⟩ : ∃ l, g.outs.length = l := ⟨_, rfl⟩
  rw [e4] at h4 HOK ⊢
  obtain ⟨l5, e5⟩ : ∃ l, g.checks.length = l := ⟨_, rfl⟩
  rw [e5] at h5 HOK ⊢
  change Hid (∀ V, Below w.heap.size w V → Calls Try.prog 17 #[.agg #[.slice s0 l0 c0, .slice s1 l1 c1, .slice s2 l2 c2, .slice s3 l3 c3, .slice s4 l4 c4, .slice s5 l5 c5]] V _) at HOK
  show Calls Try.prog 5 #[.agg #[.slice s0 l0 c0, .slice s1 l1 c1, .slice s2 l2 c2, .slice s3 l3 c3, .slice s4 l4 c4, .slice s5 l5 c5]] w _
  have HC0 : Hid (∀ V, Below (w.alloc (.cells #[.slice s0 l0 c0, .slice s1 l1 c1, .slice s2 l2 c2, .slice s3 l3 c3, .slice s4 l4 c4, .slice s5 l5 c5] 36)).heap.size (w.alloc (.cells #[.slice s0 l0 c0, .slice s1 l1 c1, .slice s2 l2 c2, .slice s3 l3 c3, .slice s4 l4 c4, .slice s5 l5 c5] 36)) V → V.cell? ⟨w.heap.size, 0, none⟩ = some (.slice s0 l0 c0) ∧ V.cell? ⟨w.heap.size, 1, none⟩ = some (.slice s1 l1 c1) ∧ V.cell? ⟨w.heap.size, 2, none⟩ = some (.slice s2 l2 c2) ∧ V.cell? ⟨w.heap.size, 3, none⟩ = some (.slice s3 l3 c3) ∧ V.cell? ⟨w.heap.size, 4, none⟩ = some (.slice s4 l4 c4) ∧ V.cell? ⟨w.heap.size, 5, none⟩ = some (.slice s5 l5 c5)) := hide (fun V hb => ⟨cell_later hb (by rw [World.cell?_alloc_new]; rfl), cell_later hb (by rw [World.cell?_alloc_new]; rfl), cell_later hb (by rw [World.cell?_alloc_new]; rfl), cell_later hb (by rw [World.cell?_alloc_new]; rfl), cell_later hb (by rw [World.cell?_alloc_new]; rfl), cell_later hb (by rw [World.cell?_alloc_new]; rfl)⟩)
  have HR0 : Hid (∀ (i : Nat) x, g.ins[i]? = some x → ∃ b o, s0 = some ⟨b, o, none⟩ ∧ w.cell? ⟨b, o + i, none⟩ = some (.string x)) := hide (by
    intro i x hx
    rcases h0.open with ⟨hn, _⟩ | ⟨b, o, c', hv, _, _, _, he⟩
    · rw [hn] at hx; simp at hx
    · injection hv with g1 g2 g3
      obtain ⟨u, hu, hat, hux, _⟩ := he i x hx
      subst hux
      exact ⟨b, o, g1, by simpa using hat.get (j := 0) rfl⟩)
  have HR1 : Hid (∀ (i : Nat) x, g.clocks[i]? = some x → ∃ b o, s1 = some ⟨b, o, none⟩ ∧ w.cell? ⟨b, o + i, none⟩ = some (.string x)) := hide (by
    intro i x hx
    rcases h1.open with ⟨hn, _⟩ | ⟨b, o, c', hv, _, _, _, he⟩
    · rw [hn] at hx; simp at hx
    · injection hv with g1 g2 g3
      obtain ⟨u, hu, hat, hux, _⟩ := he i x hx
      subst hux
      exact ⟨b, o, g1, by simpa using hat.get (j := 0) rfl⟩)
  have HR2 : Hid (∀ (i : Nat) x, g.latches[i]? = some x → ∃ b o, s2 = some ⟨b, o, none⟩ ∧ w.cell? ⟨b, o + i * 4, none⟩ = some (.string x.name) ∧ w.cell? ⟨b, o + i * 4 + 1, none⟩ = some (.int .i64 x.next) ∧ w.cell? ⟨b, o + i * 4 + 2, none⟩ = some (.int .i64 x.init) ∧ w.cell? ⟨b, o + i * 4 + 3, none⟩ = some (.int .i64 x.clock)) := hide (by
    intro i x hx
    rcases h2.open with ⟨hn, _⟩ | ⟨b, o, c', hv, _, _, _, he⟩
    · rw [hn] at hx; simp at hx
    · injection hv with g1 g2 g3
      obtain ⟨u, hu, hat, hux, _⟩ := he i x hx
      subst hux
      exact ⟨b, o, g1, by simpa using hat.get (j := 0) rfl, by simpa using hat.get (j := 1) rfl, by simpa using hat.get (j := 2) rfl, by simpa using hat.get (j := 3) rfl⟩)
  have HR3 : Hid (∀ (i : Nat) x, g.ands[i]? = some x → ∃ b o, s3 = some ⟨b, o, none⟩ ∧ w.cell? ⟨b, o + i * 2, none⟩ = some (.int .i64 x.a) ∧ w.cell? ⟨b, o + i * 2 + 1, none⟩ = some (.int .i64 x.b)) := hide (by
    intro i x hx
    rcases h3.open with ⟨hn, _⟩ | ⟨b, o, c', hv, _, _, _, he⟩
    · rw [hn] at hx; simp at hx
    · injection hv with g1 g2 g3
      obtain ⟨u, hu, hat, hux⟩ := he i x hx
      subst hux
      exact ⟨b, o, g1, by simpa using hat.get (j := 0) rfl, by simpa using hat.get (j := 1) rfl⟩)
  have HR4 : Hid (∀ (i : Nat) x, g.outs[i]? = some x → ∃ b o, s4 = some ⟨b, o, none⟩ ∧ w.cell? ⟨b, o + i * 2, none⟩ = some (.string x.name) ∧ w.cell? ⟨b, o + i * 2 + 1, none⟩ = some (.int .i64 x.lit)) := hide (by
    intro i x hx
    rcases h4.open with ⟨hn, _⟩ | ⟨b, o, c', hv, _, _, _, he⟩
    · rw [hn] at hx; simp at hx
    · injection hv with g1 g2 g3
      obtain ⟨u, hu, hat, hux, _⟩ := he i x hx
      subst hux
      exact ⟨b, o, g1, by simpa using hat.get (j := 0) rfl, by simpa using hat.get (j := 1) rfl⟩)
  have HR5 : Hid (∀ (i : Nat) x, g.checks[i]? = some x → ∃ b o, s5 = some ⟨b, o, none⟩ ∧ w.cell? ⟨b, o + i * 2, none⟩ = some (.string x.name) ∧ w.cell? ⟨b, o + i * 2 + 1, none⟩ = some (.int .i64 x.lit)) := hide (by
    intro i x hx
    rcases h5.open with ⟨hn, _⟩ | ⟨b, o, c', hv, _, _, _, he⟩
    · rw [hn] at hx; simp at hx
    · injection hv with g1 g2 g3
      obtain ⟨u, hu, hat, hux, _⟩ := he i x hx
      subst hux
      exact ⟨b, o, g1, by simpa using hat.get (j := 0) rfl, by simpa using hat.get (j := 1) rfl⟩)
  clear h0 h1 h2 h3 h4 h5
  cases hS : aigS g
  · rw [hS] at HOK
    clear HGD HC0 HR0 HR1 HR2 HR3 HR4 HR5
    generalize bytesA g = bs at *
    clear hS
    go_enter Try.func5, Try.ntmps5
    go_wp2_with fail
    refine (unhide HOK _ (bal (brf w) _)).mono ?_
    rintro e W1 ⟨rfl, hb1⟩
    have HB1 := hide (btr (bal (brf w) (.cells #[.slice s0 l0 c0, .slice s1 l1 c1, .slice s2 l2 c2, .slice s3 l3 c3, .slice s4 l4 c4, .slice s5 l5 c5] 36)) hb1)
    clear hb1
    go_wp2_with fail
    exact bodyPost_ret (v := .tuple #[.slice (some ⟨W1.heap.size, 0, none⟩) 0 0, .int .i64 1]) (by simp [results, Try.results5, go_sem]) rfl ⟨⟨_, rfl, OB_start rfl (unhide HB1).size⟩, bal (unhide HB1) _⟩
  · have hg := unhide HGD hS
    rw [hS] at HOK
    clear HGD hS
    have hpl := parts_len hg
    have HGR := hide (show g.ins.length = l0 ∧ g.clocks.length = l1 ∧ g.latches.length = l2 ∧ g.ands.length = l3 ∧ g.outs.length = l4 ∧ g.checks.length = l5 from ⟨e0, e1, e2, e3, e4, e5⟩)
    obtain ⟨FA, hFA⟩ : ∃ FA, firstA g = FA := ⟨_, rfl⟩
    have hFe : 1 + l0 + l2 = FA := by rw [← hFA]; unfold firstA; omega
    have HBY : Hid (bytesA g = (encN l0 ++ (g.ins.flatMap encT ++ (encN l1 ++ (g.clocks.flatMap encT ++ (encN l2 ++ (g.latches.flatMap encLatch ++ (encN l3 ++ (encAnds FA g.ands ++ (encN l4 ++ (g.outs.flatMap encPin ++ (encN l5 ++ (g.checks.flatMap encPin ++ ([] : List UInt8)))))))))))))) := hide (by
      unfold bytesA encL
      rw [e0, e1, e2, e3, e4, e5, hFA]
      simp only [List.append_assoc, List.append_nil])
    have n0 := hg.n0
    have n1 := hg.n1
    have n2 := hg.n2
    have n3 := hg.n3
    have n4 := hg.n4
    have n5 := hg.n5
    have hff := hg.first
    rw [hFA] at hff
    have hi3 := hg.i3
    rw [hFA] at hi3
    have HI := hide (And.intro hg.i0 (And.intro hg.i1 (And.intro hg.i2 (And.intro hi3 (And.intro hg.i4 hg.i5)))))
    have m0 := (flat_max encT 1100 g.ins (fun s hs => encT_len (hg.i0 s hs)))
    have m1 := (flat_max encT 1100 g.clocks (fun s hs => encT_len (hg.i1 s hs)))
    have m2 := (flat_max encLatch 1200 g.latches (fun s hs => encLatch_len (hg.i2 s hs)))
    have m4 := (flat_max encPin 1200 g.outs (fun s hs => encPin_len (hg.i4 s hs)))
    have m5 := (flat_max encPin 1200 g.checks (fun s hs => encPin_len (hg.i5 s hs)))
    have m3 := encAnds_len FA g.ands (by omega) hi3
    have HM : Hid ((g.ins.flatMap encT).length ≤ 6000000 ∧ (g.clocks.flatMap encT).length ≤ 6000000 ∧ (g.latches.flatMap encLatch).length ≤ 6000000 ∧ (encAnds FA g.ands).length ≤ 6000000 ∧ (g.outs.flatMap encPin).length ≤ 6000000 ∧ (g.checks.flatMap encPin).length ≤ 6000000) := hide ⟨by omega, by omega, by omega, by omega, by omega, by omega⟩
    have HBS : Hid (bytesA g = bytesA g) := hide rfl
    obtain ⟨bs, hbs⟩ : ∃ bs, bytesA g = bs := ⟨_, rfl⟩
    rw [hbs] at HBY ⊢
    clear hbs HBS m0 m1 m2 m3 m4 m5 hi3 hg hpl hFA
    rw [e0] at n0
    rw [e1] at n1
    rw [e2] at n2
    rw [e3] at n3
    rw [e4] at n4
    rw [e5] at n5
    clear e0 e1 e2 e3 e4 e5 hl
    generalize g.ins = xs0 at *
    generalize g.clocks = xs1 at *
    generalize g.latches = xs2 at *
    generalize g.ands = xs3 at *
    generalize g.outs = xs4 at *
    generalize g.checks = xs5 at *
    go_enter Try.func5, Try.ntmps5
    go_wp2_with fail
    refine (unhide HOK _ (bal (brf w) _)).mono ?_
    rintro e W1 ⟨rfl, hb1⟩
    have HB1 := hide (btr (bal (brf w) (.cells #[.slice s0 l0 c0, .slice s1 l1 c1, .slice s2 l2 c2, .slice s3 l3 c3, .slice s4 l4 c4, .slice s5 l5 c5] 36)) hb1)
    have HC1 : Hid (∀ V, Below W1.heap.size W1 V → V.cell? ⟨w.heap.size, 0, none⟩ = some (.slice s0 l0 c0) ∧ V.cell? ⟨w.heap.size, 1, none⟩ = some (.slice s1 l1 c1) ∧ V.cell? ⟨w.heap.size, 2, none⟩ = some (.slice s2 l2 c2) ∧ V.cell? ⟨w.heap.size, 3, none⟩ = some (.slice s3 l3 c3) ∧ V.cell? ⟨w.heap.size, 4, none⟩ = some (.slice s4 l4 c4) ∧ V.cell? ⟨w.heap.size, 5, none⟩ = some (.slice s5 l5 c5)) := hide (fun V hV => by
      obtain ⟨q0, q1, q2, q3, q4, q5⟩ := unhide HC0 W1 hb1
      exact ⟨cell_later hV q0, cell_later hV q1, cell_later hV q2, cell_later hV q3, cell_later hV q4, cell_later hV q5⟩)
    obtain ⟨q0, q1, q2, q3, q4, q5⟩ := unhide HC0 W1 hb1
    have k0 := cell_later (bal (brf W1) (.cells #[] 5)) q0
    clear hb1 HC0 HOK q1 q2 q3 q4 q5
    have NP := hide (fun (V : World) (vo : Value) (p : List UInt8) (l : Nat) (hbV : Below W1.heap.size W1 V) (ho : OB W1.heap.size V vo p) (hl : l ≤ 100000) (hp : p.length ≤ 100000000) => sPut W1.heap.size l p vo V hbV.size ho (by omega) (by omega))
    have NT := hide (fun (V : World) (vo : Value) (p : List UInt8) (s : ByteArray) (hbV : Below W1.heap.size W1 V) (ho : OB W1.heap.size V vo p) (hs : s.size ≤ 1000) (hp : p.length ≤ 100000000) => sPutText W1.heap.size s p vo V hbV.size ho (by omega) (by omega))
    have HN9 : Hid (∀ l : Nat, l ≤ 100000 → (encN l).length ≤ 9) := hide (fun l hl => encN_ten (by omega))
    go_wp2_with fail
    refine (unhide NP _ _ [] l0 (bal (brf W1) _) (OB_start rfl (Nat.le_refl _)) (by omega) (by simp)).mono ?_
    rintro e V0 ⟨⟨vo0, rfl, ho⟩, hb, _⟩
    have HO := hide ho
    have HB := hide (((brf W1).alloc (Nat.le_refl _) (.cells #[] 5)).trans hb)
    obtain ⟨p, hp⟩ : ∃ p, [] ++ encN l0 = p := ⟨_, rfl⟩
    rw [hp] at HO
    have HP := hide (show p.length ≤ 7000000 * 1 by rw [← hp, List.length_append]; have := unhide HN9 l0 (by omega); simp; omega)
    have HQ := hide (show p ++ (xs0.flatMap encT ++ (encN l1 ++ (xs1.flatMap encT ++ (encN l2 ++ (xs2.flatMap encLatch ++ (encN l3 ++ (encAnds FA xs3 ++ (encN l4 ++ (xs4.flatMap encPin ++ (encN l5 ++ (xs5.flatMap encPin ++ ([] : List UInt8)))))))))))) = bs by rw [unhide HBY, ← hp]; simp only [List.nil_append])
    clear ho hb hp HBY q0 k0
    obtain ⟨q0, q1, q2, q3, q4, q5⟩ := unhide HC1 V0 (unhide HB)
    go_wp2_with fail
    clear q0 q1 q2 q3 q4 q5
    go_loopw [4, 5] (fun vo i wr => ∃ k : Nat, k ≤ l0 ∧ i = .int .i64 k ∧ OB W1.heap.size wr vo (p ++ (xs0.take k).flatMap encT) ∧ Below W1.heap.size W1 wr) (fun vo i wr => l0 - (intOf i).toNat)
    case atStart => exact ⟨0, Nat.zero_le _, rfl, by simpa [encAnds] using unhide HO, unhide HB⟩
    case round =>
      clear HO HB
      obtain ⟨k, hk, rfl, ho, hb⟩ := hrel
      have HO := hide ho
      have HB := hide hb
      have hw := btr (unhide HB1) hb
      have HLP := hide (show (p ++ (xs0.take k).flatMap encT).length ≤ 90000000 by
        have h1 := unhide HP
        have h2 := unhide HM
        have h3 := flat_le2 encT xs0 k
        rw [List.length_append]
        omega)
      clear ho
      obtain ⟨q0, q1, q2, q3, q4, q5⟩ := unhide HC1 wr hb
      by_cases hlt : k < l0
      · have hkl : k < xs0.length := by have := unhide HGR; omega
        have hx : xs0[k]? = some xs0[k] := List.getElem?_eq_getElem hkl
        have hmem : xs0[k] ∈ xs0 := List.getElem_mem hkl
        generalize xs0[k] = x at hx hmem
        have i1 : (0 : Int) ≤ (k : Int) := by omega
        have i2 : (k : Int) < (l0 : Int) := by omega
        obtain ⟨b, o, hs, k0⟩ := unhide HR0 k x hx
        subst hs
        have m0 := cell_later hw k0
        have hsz := (unhide HI).1 x hmem
        have HT := hide (flat_take2 encT xs0 k x hx)
        clear k0 hw hb hx hmem hkl
        go_wp2_with fail
        refine (unhide NT _ _ (p ++ (xs0.take k).flatMap encT) x (unhide HB) (unhide HO) hsz (by have := unhide HLP; omega)).mono ?_
        rintro e V ⟨⟨v', rfl, ho'⟩, hb', _⟩
        have HO' : Hid (OB W1.heap.size V v' (p ++ (xs0.take (k + 1)).flatMap encT)) := hide (by rw [unhide HT, ← List.append_assoc]; exact ho')
        have HB' := hide ((unhide HB).trans hb')
        clear ho' hb'
        go_wp2_with fail
        go_roundw
        case rel => exact ⟨k + 1, by omega, by go_num, unhide HO', unhide HB'⟩
        case measure => simp [intOf]; omega
      · obtain rfl : l0 = k := by omega
        obtain ⟨p', hp'⟩ : ∃ p', p ++ xs0.flatMap encT = p' := ⟨_, rfl⟩
        have HO2 : Hid (OB W1.heap.size wr u4 p') := hide (by have h := unhide HO; rw [List.take_of_length_le (by have := unhide HGR; omega), hp'] at h; exact h)
        have HP2 : Hid (p'.length ≤ 7000000 * 2) := hide (by rw [← hp', List.length_append]; have h1 := unhide HP; have h2 := unhide HM; omega)
        have HQ2 : Hid (p' ++ (encN l1 ++ (xs1.flatMap encT ++ (encN l2 ++ (xs2.flatMap encLatch ++ (encN l3 ++ (encAnds FA xs3 ++ (encN l4 ++ (xs4.flatMap encPin ++ (encN l5 ++ (xs5.flatMap encPin ++ ([] : List UInt8))))))))))) = bs) := hide (by rw [← unhide HQ, ← hp', List.append_assoc])
        clear hp' HO HP HQ HLP hw hb HR0 hlt
        obtain ⟨p, rfl⟩ : ∃ p, p = p' := ⟨_, rfl⟩
        obtain ⟨X, rfl⟩ : ∃ X : World, X = wr := ⟨wr, rfl⟩
        go_wp2_with fail
        refine (unhide NP _ _ p l1 (unhide HB) (unhide HO2) (by omega) (by have := unhide HP2; omega)).mono ?_
        rintro e V1 ⟨⟨vo1, rfl, ho⟩, hb, _⟩
        obtain ⟨p', hp'⟩ : ∃ p', p ++ encN l1 = p' := ⟨_, rfl⟩
        rw [hp'] at ho
        have HO := hide ho
        have HB2 := hide ((unhide HB).trans hb)
        have HP := hide (show p'.length ≤ 7000000 * 3 by rw [← hp', List.length_append]; have h1 := unhide HP2; have h2 := unhide HN9 l1 (by omega); omega)
        have HQ := hide (show p' ++ (xs1.flatMap encT ++ (encN l2 ++ (xs2.flatMap encLatch ++ (encN l3 ++ (encAnds FA xs3 ++ (encN l4 ++ (xs4.flatMap encPin ++ (encN l5 ++ (xs5.flatMap encPin ++ ([] : List UInt8)))))))))) = bs by rw [← unhide HQ2, ← hp', List.append_assoc])
        clear ho hb hp' HO2 HP2 HQ2 HB q0 q1 q2 q3 q4 q5
        have HB := hide (unhide HB2)
        clear HB2
        obtain ⟨p, rfl⟩ : ∃ p, p = p' := ⟨_, rfl⟩
        obtain ⟨q0, q1, q2, q3, q4, q5⟩ := unhide HC1 V1 (unhide HB)
        go_wp2_with fail
        clear q0 q1 q2 q3 q4 q5
        go_loopw [4, 6] (fun vo i wr => ∃ k : Nat, k ≤ l1 ∧ i = .int .i64 k ∧ OB W1.heap.size wr vo (p ++ (xs1.take k).flatMap encT) ∧ Below W1.heap.size W1 wr) (fun vo i wr => l1 - (intOf i).toNat)
        case atStart => exact ⟨0, Nat.zero_le _, rfl, by simpa [encAnds] using unhide HO, unhide HB⟩
        case round =>
          clear HO HB
          obtain ⟨k, hk, rfl, ho, hb⟩ := hrel
          have HO := hide ho
          have HB := hide hb
          have hw := btr (unhide HB1) hb
          have HLP := hide (show (p ++ (xs1.take k).flatMap encT).length ≤ 90000000 by
            have h1 := unhide HP
            have h2 := unhide HM
            have h3 := flat_le2 encT xs1 k
            rw [List.length_append]
            omega)
          clear ho
          obtain ⟨q0, q1, q2, q3, q4, q5⟩ := unhide HC1 wr hb
          by_cases hlt : k < l1
          · have hkl : k < xs1.length := by have := unhide HGR; omega
            have hx : xs1[k]? = some xs1[k] := List.getElem?_eq_getElem hkl
            have hmem : xs1[k] ∈ xs1 := List.getElem_mem hkl
            generalize xs1[k] = x at hx hmem
            have i1 : (0 : Int) ≤ (k : Int) := by omega
            have i2 : (k : Int) < (l1 : Int) := by omega
            obtain ⟨b, o, hs, k0⟩ := unhide HR1 k x hx
            subst hs
            have m0 := cell_later hw k0
            have hsz := (unhide HI).2.1 x hmem
            have HT := hide (flat_take2 encT xs1 k x hx)
            clear k0 hw hb hx hmem hkl
            go_wp2_with fail
            refine (unhide NT _ _ (p ++ (xs1.take k).flatMap encT) x (unhide HB) (unhide HO) hsz (by have := unhide HLP; omega)).mono ?_
            rintro e V ⟨⟨v', rfl, ho'⟩, hb', _⟩
            have HO' : Hid (OB W1.heap.size V v' (p ++ (xs1.take (k + 1)).flatMap encT)) := hide (by rw [unhide HT, ← List.append_assoc]; exact ho')
            have HB' := hide ((unhide HB).trans hb')
            clear ho' hb'
            go_wp2_with fail
            go_roundw
            case rel => exact ⟨k + 1, by omega, by go_num, unhide HO', unhide HB'⟩
            case measure => simp [intOf]; omega
          · obtain rfl : l1 = k := by omega
            obtain ⟨p', hp'⟩ : ∃ p', p ++ xs1.flatMap encT = p' := ⟨_, rfl⟩
            have HO2 : Hid (OB W1.heap.size wr u4 p') := hide (by have h := unhide HO; rw [List.take_of_length_le (by have := unhide HGR; omega), hp'] at h; exact h)
            have HP2 : Hid (p'.length ≤ 7000000 * 4) := hide (by rw [← hp', List.length_append]; have h1 := unhide HP; have h2 := unhide HM; omega)
            have HQ2 : Hid (p' ++ (encN l2 ++ (xs2.flatMap encLatch ++ (encN l3 ++ (encAnds FA xs3 ++ (encN l4 ++ (xs4.flatMap encPin ++ (encN l5 ++ (xs5.flatMap encPin ++ ([] : List UInt8))))))))) = bs) := hide (by rw [← unhide HQ, ← hp', List.append_assoc])
            clear hp' HO HP HQ HLP hw hb HR1 hlt
            obtain ⟨p, rfl⟩ : ∃ p, p = p' := ⟨_, rfl⟩
            obtain ⟨X, rfl⟩ : ∃ X : World, X = wr := ⟨wr, rfl⟩
            go_wp2_with fail
            refine (unhide NP _ _ p l2 (unhide HB) (unhide HO2) (by omega) (by have := unhide HP2; omega)).mono ?_
            rintro e V2 ⟨⟨vo2, rfl, ho⟩, hb, _⟩
            obtain ⟨p', hp'⟩ : ∃ p', p ++ encN l2 = p' := ⟨_, rfl⟩
            rw [hp'] at ho
            have HO := hide ho
            have HB2 := hide ((unhide HB).trans hb)
            have HP := hide (show p'.length ≤ 7000000 * 5 by rw [← hp', List.length_append]; have h1 := unhide HP2; have h2 := unhide HN9 l2 (by omega); omega)
            have HQ := hide (show p' ++ (xs2.flatMap encLatch ++ (encN l3 ++ (encAnds FA xs3 ++ (encN l4 ++ (xs4.flatMap encPin ++ (encN l5 ++ (xs5.flatMap encPin ++ ([] : List UInt8)))))))) = bs by rw [← unhide HQ2, ← hp', List.append_assoc])
            clear ho hb hp' HO2 HP2 HQ2 HB q0 q1 q2 q3 q4 q5
            have HB := hide (unhide HB2)
            clear HB2
            obtain ⟨p, rfl⟩ : ∃ p, p = p' := ⟨_, rfl⟩
            obtain ⟨q0, q1, q2, q3, q4, q5⟩ := unhide HC1 V2 (unhide HB)
            go_wp2_with fail
            clear q0 q1 q2 q3 q4 q5
            go_loopw [4, 7] (fun vo i wr => ∃ k : Nat, k ≤ l2 ∧ i = .int .i64 k ∧ OB W1.heap.size wr vo (p ++ (xs2.take k).flatMap encLatch) ∧ Below W1.heap.size W1 wr) (fun vo i wr => l2 - (intOf i).toNat)
            case atStart => exact ⟨0, Nat.zero_le _, rfl, by simpa [encAnds] using unhide HO, unhide HB⟩
            case round =>
              clear HO HB
              obtain ⟨k, hk, rfl, ho, hb⟩ := hrel
              have HO := hide ho
              have HB := hide hb
              have hw := btr (unhide HB1) hb
              have HLP := hide (show (p ++ (xs2.take k).flatMap encLatch).length ≤ 90000000 by
                have h1 := unhide HP
                have h2 := unhide HM
                have h3 := flat_le2 encLatch xs2 k
                rw [List.length_append]
                omega)
              clear ho
              obtain ⟨q0, q1, q2, q3, q4, q5⟩ := unhide HC1 wr hb
              by_cases hlt : k < l2
              · have hkl : k < xs2.length := by have := unhide HGR; omega
                have hx : xs2[k]? = some xs2[k] := List.getElem?_eq_getElem hkl
                have hmem : xs2[k] ∈ xs2 := List.getElem_mem hkl
                generalize xs2[k] = x at hx hmem
                have i1 : (0 : Int) ≤ (k : Int) := by omega
                have i2 : (k : Int) < (l2 : Int) := by omega
                obtain ⟨b, o, hs, k0, k1, k2, k3⟩ := unhide HR2 k x hx
                subst hs
                obtain ⟨hsz, y1, y2, y3, y4, y5, y6⟩ := (unhide HI).2.2.1 x hmem
                have HT := hide (flat_take2 encLatch xs2 k x hx)
                have HEN : Hid (encLatch x = encT x.name ++ (encN x.next.toNat ++ (encN x.init.toNat ++ encN x.clock.toNat))) := hide (by unfold encLatch encLt; simp)
                rw [toNat_eq y1] at k1
                rw [toNat_eq y3] at k2
                rw [toNat_eq y5] at k3
                have m0 := cell_later hw k0
                have m1 := cell_later hw k1
                have m2 := cell_later hw k2
                have m3 := cell_later hw k3
                obtain ⟨z1, hz1⟩ : ∃ z, x.next.toNat = z := ⟨_, rfl⟩
                obtain ⟨z2, hz2⟩ : ∃ z, x.init.toNat = z := ⟨_, rfl⟩
                obtain ⟨z3, hz3⟩ : ∃ z, x.clock.toNat = z := ⟨_, rfl⟩
                have b1 : z1 ≤ 1000000 := by omega
                have b2 : z2 ≤ 1000000 := by omega
                have b3 : z3 ≤ 1000000 := by omega
                rw [hz1] at m1 HEN
                rw [hz2] at m2 HEN
                rw [hz3] at m3 HEN
                obtain ⟨nm, hnm⟩ : ∃ z, x.name = z := ⟨_, rfl⟩
                rw [hnm] at m0 HEN hsz
                clear k0 k1 k2 k3 hw hb hx hmem hkl y1 y2 y3 y4 y5 y6 hz1 hz2 hz3 hnm
                go_wp2_with fail
                refine (unhide NT (wr.alloc (.cells #[.string nm, .int .i64 (z1 : Int), .int .i64 (z2 : Int), .int .i64 (z3 : Int)] 51)) _ (p ++ (xs2.take k).flatMap encLatch) nm ((unhide HB).alloc (unhide HB).size _) ((unhide HO).alloc _) hsz (by have := unhide HLP; omega)).mono ?_
                rintro e V ⟨⟨v', rfl, ho'⟩, hb', hk'⟩
                have HBV := hide (((unhide HB).alloc (unhide HB).size (.cells #[.string nm, .int .i64 (z1 : Int), .int .i64 (z2 : Int), .int .i64 (z3 : Int)] 51)).trans hb')
                have HOV := hide ho'
                have HBX : Hid (∀ U, KP [] V U → U.cell? ⟨wr.heap.size, 1, none⟩ = some (.int .i64 (z1 : Int)) ∧ U.cell? ⟨wr.heap.size, 2, none⟩ = some (.int .i64 (z2 : Int)) ∧ U.cell? ⟨wr.heap.size, 3, none⟩ = some (.int .i64 (z3 : Int))) := hide (fun U hU => by
                  have e1 := hU.keep wr.heap.size _ (hk'.keep wr.heap.size _ (heap_alloc_new wr _) (notB_cells (by decide)) (by simp)) (notB_cells (by decide)) (by simp)
                  exact ⟨cell_of e1 rfl, cell_of e1 rfl, cell_of e1 rfl⟩)
                have HLV := hide (show (p ++ (xs2.take k).flatMap encLatch ++ (encN nm.size ++ L nm)).length ≤ 200000000 by have h1 := unhide HLP; have h2 := unhide HN9 nm.size (by omega); have h3 := L_len nm; rw [List.length_append, show (encN nm.size ++ L nm).length = (encN nm.size).length + (L nm).length from List.length_append]; omega)
                clear ho' hb' hk' q0 q1 q2 q3 q4 q5 m0 m1 m2 m3
                go_wp2_with fail
                refine reg19 w _ s1 _ s3 s4 s5 l0 l1 l2 l3 l4 l5 c0 c1 c2 c3 c4 c5 wr.heap.size z1 z2 z3 _ _ W1 V (unhide HBV) (unhide HOV) (unhide HBX) b1 b2 b3 (unhide HLV) ?_
                intro p78 p79 p80 p81 p82 p83 p84 p85 p86 p87 vn U hbU hkU hoU
                have HO' : Hid (OB W1.heap.size U vn (p ++ (xs2.take (k + 1)).flatMap encLatch)) := hide (by
                  rw [unhide HT, unhide HEN]
                  unfold encT
                  simpa only [List.append_assoc] using hoU)
                have HB' := hide ((unhide HBV).trans hbU)
                clear hbU hkU hoU
                go_wp2_with fail
                go_roundw
                case rel => exact ⟨k + 1, by omega, by go_num, unhide HO', unhide HB'⟩
                case measure => simp [intOf]; omega
              · obtain rfl : l2 = k := by omega
                obtain ⟨p', hp'⟩ : ∃ p', p ++ xs2.flatMap encLatch = p' := ⟨_, rfl⟩
                have HO2 : Hid (OB W1.heap.size wr u4 p') := hide (by have h := unhide HO; rw [List.take_of_length_le (by have := unhide HGR; omega), hp'] at h; exact h)
                have HP2 : Hid (p'.length ≤ 7000000 * 6) := hide (by rw [← hp', List.length_append]; have h1 := unhide HP; have h2 := unhide HM; omega)
                have HQ2 : Hid (p' ++ (encN l3 ++ (encAnds FA xs3 ++ (encN l4 ++ (xs4.flatMap encPin ++ (encN l5 ++ (xs5.flatMap encPin ++ ([] : List UInt8))))))) = bs) := hide (by rw [← unhide HQ, ← hp', List.append_assoc])
                clear hp' HO HP HQ HLP hw hb HR2 hlt
                obtain ⟨p, rfl⟩ : ∃ p, p = p' := ⟨_, rfl⟩
                obtain ⟨X, rfl⟩ : ∃ X : World, X = wr := ⟨wr, rfl⟩
                go_wp2_with fail
                refine (unhide NP _ _ p l3 (unhide HB) (unhide HO2) (by omega) (by have := unhide HP2; omega)).mono ?_
                rintro e V3 ⟨⟨vo3, rfl, ho⟩, hb, _⟩
                obtain ⟨p', hp'⟩ : ∃ p', p ++ encN l3 = p' := ⟨_, rfl⟩
                rw [hp'] at ho
                have HO := hide ho
                have HB2 := hide ((unhide HB).trans hb)
                have HP := hide (show p'.length ≤ 7000000 * 7 by rw [← hp', List.length_append]; have h1 := unhide HP2; have h2 := unhide HN9 l3 (by omega); omega)
                have HQ := hide (show p' ++ (encAnds FA xs3 ++ (encN l4 ++ (xs4.flatMap encPin ++ (encN l5 ++ (xs5.flatMap encPin ++ ([] : List UInt8)))))) = bs by rw [← unhide HQ2, ← hp', List.append_assoc])
                clear ho hb hp' HO2 HP2 HQ2 HB q0 q1 q2 q3 q4 q5
                have HB := hide (unhide HB2)
                clear HB2
                obtain ⟨p, rfl⟩ : ∃ p, p = p' := ⟨_, rfl⟩
                obtain ⟨q0, q1, q2, q3, q4, q5⟩ := unhide HC1 V3 (unhide HB)
                go_wp2_with fail
                clear q0 q1 q2 q3 q4 q5
                go_loopw [4, 9] (fun vo i wr => ∃ k : Nat, k ≤ l3 ∧ i = .int .i64 k ∧ OB W1.heap.size wr vo (p ++ encAnds FA (xs3.take k)) ∧ Below W1.heap.size W1 wr) (fun vo i wr => l3 - (intOf i).toNat)
                case atStart => exact ⟨0, Nat.zero_le _, rfl, by simpa [encAnds] using unhide HO, unhide HB⟩
                case round =>
                  clear HO HB
                  obtain ⟨k, hk, rfl, ho, hb⟩ := hrel
                  have HO := hide ho
                  have HB := hide hb
                  have hw := btr (unhide HB1) hb
                  have HLP := hide (show (p ++ encAnds FA (xs3.take k)).length ≤ 90000000 by
                    have h1 := unhide HP
                    have h2 := unhide HM
                    have h3 := encAnds_le xs3 FA k
                    rw [List.length_append]
                    omega)
                  clear ho
                  obtain ⟨q0, q1, q2, q3, q4, q5⟩ := unhide HC1 wr hb
                  by_cases hlt : k < l3
                  · have hkl : k < xs3.length := by have := unhide HGR; omega
                    have hx : xs3[k]? = some xs3[k] := List.getElem?_eq_getElem hkl
                    have hmem : xs3[k] ∈ xs3 := List.getElem_mem hkl
                    generalize xs3[k] = x at hx hmem
                    have i1 : (0 : Int) ≤ (k : Int) := by omega
                    have i2 : (k : Int) < (l3 : Int) := by omega
                    obtain ⟨b, o, hs, k0, k1⟩ := unhide HR3 k x hx
                    subst hs
                    obtain ⟨y1, y2, y3, y4⟩ := (unhide HI).2.2.2.1 k x hx
                    have HT := hide (encAnds_take xs3 FA k x hx)
                    rw [toNat_eq y1] at k0
                    rw [toNat_eq y3] at k1
                    obtain ⟨za, hza⟩ : ∃ z, x.a.toNat = z := ⟨_, rfl⟩
                    obtain ⟨zb, hzb⟩ : ∃ z, x.b.toNat = z := ⟨_, rfl⟩
                    obtain ⟨VK, hVK⟩ : ∃ VK, FA + k = VK := ⟨_, rfl⟩
                    have r1 : za < 2 * VK := by omega
                    have r2 : zb < 2 * VK := by omega
                    have r3 : (FA : Int) + (k : Int) = (VK : Int) := by omega
                    have r0 : (1 : Int) + (l0 : Int) + (l2 : Int) + (k : Int) = (VK : Int) := by omega
                    have r5 : VK ≤ 20000 := by omega
                    rw [hza] at k0 HT
                    rw [hzb] at k1 HT
                    rw [hVK] at HT
                    obtain ⟨hi, hhi⟩ : ∃ hi, hi = max za zb := ⟨_, rfl⟩
                    obtain ⟨lo, hlo⟩ : ∃ lo, lo = min za zb := ⟨_, rfl⟩
                    have hcase : (((za : Int) < (zb : Int)) ∧ (¬ ((zb : Int) < (za : Int))) ∧ hi = zb ∧ lo = za) ∨ (za = zb ∧ hi = zb ∧ lo = zb) ∨ ((¬ ((za : Int) < (zb : Int))) ∧ ((zb : Int) < (za : Int)) ∧ hi = za ∧ lo = zb) := by omega
                    obtain ⟨d1, hd1⟩ : ∃ d1, d1 = 2 * VK - hi := ⟨_, rfl⟩
                    obtain ⟨d2, hd2⟩ : ∃ d2, d2 = hi - lo := ⟨_, rfl⟩
                    have t1 : 2 * (VK : Int) - (hi : Int) = (d1 : Int) := by omega
                    have t2 : (hi : Int) - (lo : Int) = (d2 : Int) := by omega
                    have HEN : Hid (encA VK za zb = encN d1 ++ encN d2) := hide (by unfold encA; rw [← hhi, ← hlo, ← hd1, ← hd2])
                    have u1 : d1 ≤ 100000 := by omega
                    have u2 : d2 ≤ 100000 := by omega
                    have u3 : hi ≤ 40000 := by omega
                    have u4 : lo ≤ 40000 := by omega
                    have HCC : Hid (∀ V, Below wr.heap.size wr V → V.cell? ⟨w.heap.size, 3, none⟩ = some (.slice (some ⟨b, o, none⟩) l3 c3) ∧ V.cell? ⟨b, o + k * 2, none⟩ = some (.int .i64 (za : Int)) ∧ V.cell? ⟨b, o + k * 2 + 1, none⟩ = some (.int .i64 (zb : Int))) := hide (fun V hV => by
                      have hb2 := btr (unhide HB) hV
                      obtain ⟨t0, t1, t2, t3, t4, t5⟩ := unhide HC1 V hb2
                      exact ⟨t3, cell_later (btr (unhide HB1) hb2) k0, cell_later (btr (unhide HB1) hb2) k1⟩)
                    have HCS := hide hcase
                    clear k0 k1 hw hb hx hmem hkl y1 y2 y3 y4 hza hzb hVK hhi hlo hd1 hd2 hcase
                    go_wp2_with fail
                    clear q0 q1 q2 q3 q4 q5
                    refine reg24 w s0 s1 s2 _ s4 s5 l0 l1 l2 l3 l4 l5 c0 c1 c2 c3 c4 c5 b o l3 c3 k za zb hi lo _ wr (unhide HCC) i1 i2 (by have h := unhide HCS; omega) ?_
                    intro p100 p101 p102 p103 p104 p105 p106 p107 p108 p109 p110 p111 p112 U1 hb1
                    have HCC2 : Hid (∀ V, Below U1.heap.size U1 V → V.cell? ⟨w.heap.size, 3, none⟩ = some (.slice (some ⟨b, o, none⟩) l3 c3) ∧ V.cell? ⟨b, o + k * 2, none⟩ = some (.int .i64 (za : Int)) ∧ V.cell? ⟨b, o + k * 2 + 1, none⟩ = some (.int .i64 (zb : Int))) := hide (fun V hV => unhide HCC V (btr hb1 hV))
                    have HU1 := hide hb1
                    clear hb1
                    go_wp2_with fail
                    refine reg25 w s0 s1 s2 _ s4 s5 l0 l1 l2 l3 l4 l5 c0 c1 c2 c3 c4 c5 b o l3 c3 k za zb hi lo _ U1 (unhide HCC2) i1 i2 (by have h := unhide HCS; omega) ?_
                    intro p113 p114 p115 p116 p117 p118 p119 p120 p121 p122 p123 p124 p125 U2 hb2
                    have HU2 := hide (btr (unhide HU1) hb2)
                    have HBU := hide (btr (unhide HB) (unhide HU2))
                    have HOU := hide ((unhide HO).later (unhide HU2))
                    obtain ⟨q0, q1, q2, q3, q4, q5⟩ := unhide HC1 U2 (unhide HBU)
                    clear hb2
                    go_wp2_with fail
                    refine (unhide NP _ _ (p ++ encAnds FA (xs3.take k)) d1 (unhide HBU) (unhide HOU) u1 (by have := unhide HLP; omega)).mono ?_
                    rintro e V ⟨⟨v', rfl, ho'⟩, hb', _⟩
                    have HOV := hide ho'
                    have HBV := hide ((unhide HBU).trans hb')
                    clear ho' hb' q0 q1 q2 q3 q4 q5
                    go_wp2_with fail
                    refine (unhide NP _ _ (p ++ encAnds FA (xs3.take k) ++ encN d1) d2 (unhide HBV) (unhide HOV) u2 (by have h1 := unhide HLP; have h2 := unhide HN9 d1 u1; rw [List.length_append]; omega)).mono ?_
                    rintro e V2 ⟨⟨v2, rfl, ho'⟩, hb', _⟩
                    have HO' : Hid (OB W1.heap.size V2 v2 (p ++ encAnds FA (xs3.take (k + 1)))) := hide (by
                      rw [unhide HT, unhide HEN]
                      simpa only [List.append_assoc] using ho')
                    have HB' := hide ((unhide HBV).trans hb')
                    clear ho' hb'
                    go_wp2_with fail
                    go_roundw
                    case rel => exact ⟨k + 1, by omega, by go_num, unhide HO', unhide HB'⟩
                    case measure => simp [intOf]; omega
                  · obtain rfl : l3 = k := by omega
                    obtain ⟨p', hp'⟩ : ∃ p', p ++ encAnds FA xs3 = p' := ⟨_, rfl⟩
                    have HO2 : Hid (OB W1.heap.size wr u4 p') := hide (by have h := unhide HO; rw [List.take_of_length_le (by have := unhide HGR; omega), hp'] at h; exact h)
                    have HP2 : Hid (p'.length ≤ 7000000 * 8) := hide (by rw [← hp', List.length_append]; have h1 := unhide HP; have h2 := unhide HM; omega)
                    have HQ2 : Hid (p' ++ (encN l4 ++ (xs4.flatMap encPin ++ (encN l5 ++ (xs5.flatMap encPin ++ ([] : List UInt8))))) = bs) := hide (by rw [← unhide HQ, ← hp', List.append_assoc])
                    clear hp' HO HP HQ HLP hw hb HR3 hlt
                    obtain ⟨p, rfl⟩ : ∃ p, p = p' := ⟨_, rfl⟩
                    obtain ⟨X, rfl⟩ : ∃ X : World, X = wr := ⟨wr, rfl⟩
                    go_wp2_with fail
                    refine (unhide NP _ _ p l4 (unhide HB) (unhide HO2) (by omega) (by have := unhide HP2; omega)).mono ?_
                    rintro e V4 ⟨⟨vo4, rfl, ho⟩, hb, _⟩
                    obtain ⟨p', hp'⟩ : ∃ p', p ++ encN l4 = p' := ⟨_, rfl⟩
                    rw [hp'] at ho
                    have HO := hide ho
                    have HB2 := hide ((unhide HB).trans hb)
                    have HP := hide (show p'.length ≤ 7000000 * 9 by rw [← hp', List.length_append]; have h1 := unhide HP2; have h2 := unhide HN9 l4 (by omega); omega)
                    have HQ := hide (show p' ++ (xs4.flatMap encPin ++ (encN l5 ++ (xs5.flatMap encPin ++ ([] : List UInt8)))) = bs by rw [← unhide HQ2, ← hp', List.append_assoc])
                    clear ho hb hp' HO2 HP2 HQ2 HB q0 q1 q2 q3 q4 q5
                    have HB := hide (unhide HB2)
                    clear HB2
                    obtain ⟨p, rfl⟩ : ∃ p, p = p' := ⟨_, rfl⟩
                    obtain ⟨q0, q1, q2, q3, q4, q5⟩ := unhide HC1 V4 (unhide HB)
                    go_wp2_with fail
                    clear q0 q1 q2 q3 q4 q5
                    go_loopw [4, 13] (fun vo i wr => ∃ k : Nat, k ≤ l4 ∧ i = .int .i64 k ∧ OB W1.heap.size wr vo (p ++ (xs4.take k).flatMap encPin) ∧ Below W1.heap.size W1 wr) (fun vo i wr => l4 - (intOf i).toNat)
                    case atStart => exact ⟨0, Nat.zero_le _, rfl, by simpa [encAnds] using unhide HO, unhide HB⟩
                    case round =>
                      clear HO HB
                      obtain ⟨k, hk, rfl, ho, hb⟩ := hrel
                      have HO := hide ho
                      have HB := hide hb
                      have hw := btr (unhide HB1) hb
                      have HLP := hide (show (p ++ (xs4.take k).flatMap encPin).length ≤ 90000000 by
                        have h1 := unhide HP
                        have h2 := unhide HM
                        have h3 := flat_le2 encPin xs4 k
                        rw [List.length_append]
                        omega)
                      clear ho
                      obtain ⟨q0, q1, q2, q3, q4, q5⟩ := unhide HC1 wr hb
                      by_cases hlt : k < l4
                      · have hkl : k < xs4.length := by have := unhide HGR; omega
                        have hx : xs4[k]? = some xs4[k] := List.getElem?_eq_getElem hkl
                        have hmem : xs4[k] ∈ xs4 := List.getElem_mem hkl
                        generalize xs4[k] = x at hx hmem
                        have i1 : (0 : Int) ≤ (k : Int) := by omega
                        have i2 : (k : Int) < (l4 : Int) := by omega
                        obtain ⟨b, o, hs, k0, k1⟩ := unhide HR4 k x hx
                        subst hs
                        obtain ⟨hsz, y1, y2⟩ := (unhide HI).2.2.2.2.1 x hmem
                        have HT := hide (flat_take2 encPin xs4 k x hx)
                        have HEN : Hid (encPin x = encT x.name ++ encN x.lit.toNat) := hide rfl
                        rw [toNat_eq y1] at k1
                        obtain ⟨z, hz⟩ : ∃ z, x.lit.toNat = z := ⟨_, rfl⟩
                        obtain ⟨nm, hnm⟩ : ∃ z, x.name = z := ⟨_, rfl⟩
                        have b1 : z ≤ 1000000 := by omega
                        rw [hz] at k1 HEN
                        rw [hnm] at k0 HEN hsz
                        have HCC : Hid (∀ V, Below W1.heap.size wr V → V.cell? ⟨w.heap.size, 4, none⟩ = some (.slice (some ⟨b, o, none⟩) l4 c4) ∧ V.cell? ⟨b, o + k * 2, none⟩ = some (.string nm) ∧ V.cell? ⟨b, o + k * 2 + 1, none⟩ = some (.int .i64 (z : Int))) := hide (fun V hV => by
                          have hb2 := (unhide HB).trans hV
                          obtain ⟨t0, t1, t2, t3, t4, t5⟩ := unhide HC1 V hb2
                          exact ⟨t4, cell_later (btr (unhide HB1) hb2) k0, cell_later (btr (unhide HB1) hb2) k1⟩)
                        clear k0 k1 hw hb hx hmem hkl y1 y2 hz hnm
                        go_wp2_with fail
                        clear q0 q1 q2 q3 q4 q5
                        refine reg32 w s0 s1 s2 s3 _ s5 l0 l1 l2 l3 l4 l5 c0 c1 c2 c3 c4 c5 b o l4 c4 k z nm _ _ W1 wr (unhide HB) (unhide HO) (unhide HCC) i1 i2 b1 hsz (by have := unhide HLP; omega) ?_
                        intro p158 p159 p160 p161 p162 p163 p164 p165 p166 p167 p168 p169 p170 p171 p172 vn U hbU hkU hoU
                        have HO' : Hid (OB W1.heap.size U vn (p ++ (xs4.take (k + 1)).flatMap encPin)) := hide (by
                          rw [unhide HT, unhide HEN]
                          unfold encT
                          simpa only [List.append_assoc] using hoU)
                        have HB' := hide ((unhide HB).trans hbU)
                        clear hbU hkU hoU
                        go_wp2_with fail
                        go_roundw
                        case rel => exact ⟨k + 1, by omega, by go_num, unhide HO', unhide HB'⟩
                        case measure => simp [intOf]; omega
                      · obtain rfl : l4 = k := by omega
                        obtain ⟨p', hp'⟩ : ∃ p', p ++ xs4.flatMap encPin = p' := ⟨_, rfl⟩
                        have HO2 : Hid (OB W1.heap.size wr u4 p') := hide (by have h := unhide HO; rw [List.take_of_length_le (by have := unhide HGR; omega), hp'] at h; exact h)
                        have HP2 : Hid (p'.length ≤ 7000000 * 10) := hide (by rw [← hp', List.length_append]; have h1 := unhide HP; have h2 := unhide HM; omega)
                        have HQ2 : Hid (p' ++ (encN l5 ++ (xs5.flatMap encPin ++ ([] : List UInt8))) = bs) := hide (by rw [← unhide HQ, ← hp', List.append_assoc])
                        clear hp' HO HP HQ HLP hw hb HR4 hlt
                        obtain ⟨p, rfl⟩ : ∃ p, p = p' := ⟨_, rfl⟩
                        obtain ⟨X, rfl⟩ : ∃ X : World, X = wr := ⟨wr, rfl⟩
                        go_wp2_with fail
                        refine (unhide NP _ _ p l5 (unhide HB) (unhide HO2) (by omega) (by have := unhide HP2; omega)).mono ?_
                        rintro e V5 ⟨⟨vo5, rfl, ho⟩, hb, _⟩
                        obtain ⟨p', hp'⟩ : ∃ p', p ++ encN l5 = p' := ⟨_, rfl⟩
                        rw [hp'] at ho
                        have HO := hide ho
                        have HB2 := hide ((unhide HB).trans hb)
                        have HP := hide (show p'.length ≤ 7000000 * 11 by rw [← hp', List.length_append]; have h1 := unhide HP2; have h2 := unhide HN9 l5 (by omega); omega)
                        have HQ := hide (show p' ++ (xs5.flatMap encPin ++ ([] : List UInt8)) = bs by rw [← unhide HQ2, ← hp', List.append_assoc])
                        clear ho hb hp' HO2 HP2 HQ2 HB q0 q1 q2 q3 q4 q5
                        have HB := hide (unhide HB2)
                        clear HB2
                        obtain ⟨p, rfl⟩ : ∃ p, p = p' := ⟨_, rfl⟩
                        obtain ⟨q0, q1, q2, q3, q4, q5⟩ := unhide HC1 V5 (unhide HB)
                        go_wp2_with fail
                        clear q0 q1 q2 q3 q4 q5
                        go_loopw [4, 14] (fun vo i wr => ∃ k : Nat, k ≤ l5 ∧ i = .int .i64 k ∧ OB W1.heap.size wr vo (p ++ (xs5.take k).flatMap encPin) ∧ Below W1.heap.size W1 wr) (fun vo i wr => l5 - (intOf i).toNat)
                        case atStart => exact ⟨0, Nat.zero_le _, rfl, by simpa [encAnds] using unhide HO, unhide HB⟩
                        case round =>
                          clear HO HB
                          obtain ⟨k, hk, rfl, ho, hb⟩ := hrel
                          have HO := hide ho
                          have HB := hide hb
                          have hw := btr (unhide HB1) hb
                          have HLP := hide (show (p ++ (xs5.take k).flatMap encPin).length ≤ 90000000 by
                            have h1 := unhide HP
                            have h2 := unhide HM
                            have h3 := flat_le2 encPin xs5 k
                            rw [List.length_append]
                            omega)
                          clear ho
                          obtain ⟨q0, q1, q2, q3, q4, q5⟩ := unhide HC1 wr hb
                          by_cases hlt : k < l5
                          · have hkl : k < xs5.length := by have := unhide HGR; omega
                            have hx : xs5[k]? = some xs5[k] := List.getElem?_eq_getElem hkl
                            have hmem : xs5[k] ∈ xs5 := List.getElem_mem hkl
                            generalize xs5[k] = x at hx hmem
                            have i1 : (0 : Int) ≤ (k : Int) := by omega
                            have i2 : (k : Int) < (l5 : Int) := by omega
                            obtain ⟨b, o, hs, k0, k1⟩ := unhide HR5 k x hx
                            subst hs
                            obtain ⟨hsz, y1, y2⟩ := (unhide HI).2.2.2.2.2 x hmem
                            have HT := hide (flat_take2 encPin xs5 k x hx)
                            have HEN : Hid (encPin x = encT x.name ++ encN x.lit.toNat) := hide rfl
                            rw [toNat_eq y1] at k1
                            obtain ⟨z, hz⟩ : ∃ z, x.lit.toNat = z := ⟨_, rfl⟩
                            obtain ⟨nm, hnm⟩ : ∃ z, x.name = z := ⟨_, rfl⟩
                            have b1 : z ≤ 1000000 := by omega
                            rw [hz] at k1 HEN
                            rw [hnm] at k0 HEN hsz
                            have HCC : Hid (∀ V, Below W1.heap.size wr V → V.cell? ⟨w.heap.size, 5, none⟩ = some (.slice (some ⟨b, o, none⟩) l5 c5) ∧ V.cell? ⟨b, o + k * 2, none⟩ = some (.string nm) ∧ V.cell? ⟨b, o + k * 2 + 1, none⟩ = some (.int .i64 (z : Int))) := hide (fun V hV => by
                              have hb2 := (unhide HB).trans hV
                              obtain ⟨t0, t1, t2, t3, t4, t5⟩ := unhide HC1 V hb2
                              exact ⟨t5, cell_later (btr (unhide HB1) hb2) k0, cell_later (btr (unhide HB1) hb2) k1⟩)
                            clear k0 k1 hw hb hx hmem hkl y1 y2 hz hnm
                            go_wp2_with fail
                            clear q0 q1 q2 q3 q4 q5
                            refine reg37 w s0 s1 s2 s3 s4 _ l0 l1 l2 l3 l4 l5 c0 c1 c2 c3 c4 c5 b o l5 c5 k z nm _ _ W1 wr (unhide HB) (unhide HO) (unhide HCC) i1 i2 b1 hsz (by have := unhide HLP; omega) ?_
                            intro p185 p186 p187 p188 p189 p190 p191 p192 p193 p194 p195 p196 p197 p198 p199 vn U hbU hkU hoU
                            have HO' : Hid (OB W1.heap.size U vn (p ++ (xs5.take (k + 1)).flatMap encPin)) := hide (by
                              rw [unhide HT, unhide HEN]
                              unfold encT
                              simpa only [List.append_assoc] using hoU)
                            have HB' := hide ((unhide HB).trans hbU)
                            clear hbU hkU hoU
                            go_wp2_with fail
                            go_roundw
                            case rel => exact ⟨k + 1, by omega, by go_num, unhide HO', unhide HB'⟩
                            case measure => simp [intOf]; omega
                          · obtain rfl : l5 = k := by omega
                            obtain ⟨p', hp'⟩ : ∃ p', p ++ xs5.flatMap encPin = p' := ⟨_, rfl⟩
                            have HO2 : Hid (OB W1.heap.size wr u4 p') := hide (by have h := unhide HO; rw [List.take_of_length_le (by have := unhide HGR; omega), hp'] at h; exact h)
                            have HP2 : Hid (p'.length ≤ 7000000 * 12) := hide (by rw [← hp', List.length_append]; have h1 := unhide HP; have h2 := unhide HM; omega)
                            have HQ2 : Hid (p' ++ ([] : List UInt8) = bs) := hide (by rw [← unhide HQ, ← hp', List.append_assoc])
                            clear hp' HO HP HQ HLP hw hb HR5 hlt
                            obtain ⟨p, rfl⟩ : ∃ p, p = p' := ⟨_, rfl⟩
                            obtain ⟨X, rfl⟩ : ∃ X : World, X = wr := ⟨wr, rfl⟩
                            have HQ3 : Hid (p = bs) := hide (by have h := unhide HQ2; rwa [List.append_nil] at h)
                            have HL3 := hide (unhide HP2)
                            obtain ⟨va, vc, hvo⟩ := (unhide HO2).shape
                            have hpl : p.length ≤ 84000000 := by have := unhide HP2; omega
                            subst hvo
                            by_cases hbig : (65536 : Int) < (p.length : Int)
                            · have HA := hide (show ansB true bs = ([], 2) by rw [← unhide HQ3]; unfold ansB; rw [if_pos rfl, if_pos (by omega)])
                              go_wp2_with fail
                              exact bodyPost_ret (v := .tuple #[.slice (some ⟨X.heap.size, 0, none⟩) 0 0, .int .i64 2]) (by simp [results, Try.results5, go_sem]) rfl ⟨⟨_, by rw [unhide HA], by rw [unhide HA]; exact OB_start rfl (btr (unhide HB1) (unhide HB)).size⟩, bal (btr (unhide HB1) (unhide HB)) _⟩
                            · have HA := hide (show ansB true bs = (bs, 0) by rw [← unhide HQ3]; unfold ansB; rw [if_pos rfl, if_neg (by omega)])
                              go_wp2_with fail
                              exact bodyPost_ret (v := .tuple #[.slice va p.length vc, .int .i64 0]) (by simp [results, Try.results5, go_sem]) rfl ⟨⟨_, by rw [unhide HA], by rw [unhide HA, ← unhide HQ3]; exact (unhide HO2).low (unhide HB1).size⟩, btr (unhide HB1) (unhide HB)⟩
end Go.Proofs.Ytaamibonpmijaab
