/- The specification's l13Cone. -/
import Derived.Test.YtnoklbnacfmpdacT1
namespace Go.Proofs.Ytnoklbnacfmpdac
open Go Go.RowKit Gs
set_option linter.unusedVariables false
set_option linter.unusedSimpArgs false
set_option maxRecDepth 100000
/-- The cells of the ands. -/
def AndAt (xs : List AndG) (s : Option Addr) (w : World) : Prop := ∀ (i : Nat) x, xs[i]? = some x → ∃ b o, s = some ⟨b, o, none⟩ ∧ w.cell? ⟨b, o + i * 2, none⟩ = some (.int .i64 x.a) ∧ w.cell? ⟨b, o + i * 2 + 1, none⟩ = some (.int .i64 x.b)
theorem AndAt.of {xs : List AndG} {s : Option Addr} {l c : Nat} {w : World} {B : Nat} (h : RS 2 RAndG w B xs (.slice s l c)) : l = xs.length ∧ AndAt xs s w := by
  refine ⟨?_, ?_⟩
  · obtain ⟨a, c, hv⟩ := h.slice
    injection hv
  · intro i x hx
    rcases h.open with ⟨rfl, _⟩ | ⟨b, o, c', hv, _, _, _, he⟩
    · simp at hx
    · injection hv with e1 e2 e3
      obtain ⟨u, hu, hat, hux⟩ := he i x hx
      subst hux
      exact ⟨b, o, e1, by simpa using hat.get (j := 0) rfl, by simpa using hat.get (j := 1) rfl⟩
theorem vN_lt {z : Int} {n : Nat} (h0 : 0 ≤ z) (h : z < 2 * (n : Int)) : vN z < n := by unfold vN; omega
set_option maxHeartbeats 6400000 in
theorem sCone (s0 s1 s2 s3 s4 s5 : Option Addr) (l0 l1 l2 l3 l4 l5 c0 c1 c2 c3 c4 c5 : Nat) (xs : List AndG) (lit : Int) (FA : Nat) (w : World) (hl0 : l0 ≤ 1048576) (hl2 : l2 ≤ 1048576) (hl3 : xs.length ≤ 1048576) (h3 : RS 2 RAndG w 0 xs (.slice s3 l3 c3)) (hF : FA = 1 + l0 + l2) (hao : AO FA xs) (hz0 : 0 ≤ lit) (hz1 : lit < 2 * ((FA + xs.length : Nat) : Int)) :
    Calls Try.prog 19 #[.agg #[.slice s0 l0 c0, .slice s1 l1 c1, .slice s2 l2 c2, .slice s3 l3 c3, .slice s4 l4 c4, .slice s5 l5 c5], .int .i64 lit] w fun e w' => (∃ g, e = .returned (.slice (some ⟨g, 0, none⟩) (FA + xs.length) (FA + xs.length)) ∧ NB g w' (coneB FA xs lit) ∧ w.heap.size ≤ g) ∧ Below w.heap.size w w' := by
  obtain ⟨hlen, hcs⟩ := AndAt.of h3
  subst hlen
  have HCS := hide hcs
  have HAO := hide hao
  have HV := hide (fun V : World => sVars s0 s1 s2 s3 s4 s5 l0 l1 l2 xs.length l4 l5 c0 c1 c2 c3 c4 c5 V hl0 hl2 hl3)
  have hsum : (1 : Int) + (l0 : Int) + (l2 : Int) = (FA : Int) := by omega
  obtain ⟨N, hN⟩ : ∃ N : Nat, N = FA + xs.length := ⟨_, rfl⟩
  have hNb : N ≤ 4194304 := by omega
  rw [show 1 + l0 + l2 + xs.length = N by omega] at HV
  have HNE := hide hN
  obtain ⟨M, hM1, hM2, hmk⟩ := make_bools 49 Try.underlying49 N hNb
  obtain ⟨W, hW⟩ : ∃ W, W = w.alloc (.cells #[.slice s0 l0 c0, .slice s1 l1 c1, .slice s2 l2 c2, .slice s3 xs.length c3, .slice s4 l4 c4, .slice s5 l5 c5] 36) := ⟨_, rfl⟩
  have HW : Hid (Below w.heap.size w W) := hide (by rw [hW]; exact bal (brf w) _)
  have HC3 : Hid (∀ V, Below W.heap.size W V → V.cell? ⟨w.heap.size, 3, none⟩ = some (.slice s3 xs.length c3)) := hide (fun V hb => cell_later hb (by rw [hW, World.cell?_alloc_new]; rfl))
  have HWE := hide hW
  have hq := vN_of hz0
  have hvl : vN lit < N := by have := vN_lt hz0 hz1; omega
  have HGOAL : Hid (coneD FA xs xs.length ((List.replicate N false).set (vN lit) true) = coneB FA xs lit) := hide (by unfold coneB startN; rw [hN])
  have HMB := hide (fun V : World => NB_made (W := V) hM1 hM2)
  rw [← hN]
  clear h3 hcs hao hW hM1 hM2 hN hF hz1
  generalize vN lit = vl at *
  go_enter Try.func19, Try.ntmps19
  go_wp2_with fail
  refine (unhide HV _).mono ?_
  rintro e W1 ⟨rfl, hb1⟩
  rw [← unhide HWE] at hb1
  have HB1 := hide hb1
  have HNB0 := hide (unhide HMB W1)
  have HF1 : Hid (∀ i, i < N → (W1.alloc (.cells M 4)).cell? ⟨W1.heap.size, i, none⟩ = some (.bool false) ∧ (W1.alloc (.cells M 4)).frozen? ⟨W1.heap.size, i, none⟩ = false) := hide (fun i hi => unhide HNB0 i false (by rw [List.getElem?_replicate, if_pos hi]))
  obtain ⟨f1, f2⟩ := unhide HF1 vl hvl
  have i1 : (0 : Int) ≤ (vl : Int) := by omega
  have i2 : (vl : Int) < (N : Int) := by omega
  have q3 := unhide HC3 _ (bst (bal hb1 (.cells M 4)) (a := ⟨W1.heap.size, vl, none⟩) hb1.size (.bool true))
  have q3a := unhide HC3 _ (bal hb1 (.cells M 4))
  have hne : w.heap.size ≠ W1.heap.size := by have := hb1.size; have h2 := (unhide HW).size; have h3 : W.heap.size = w.heap.size + 1 := (by rw [unhide HWE]; simp); omega
  have q3b := unhide HC3 _ (bal hb1 (.cells (M.setIfInBounds vl (.bool true)) 4))
  have HNB1 : Hid (NB W1.heap.size (W1.alloc (.cells (M.setIfInBounds vl (.bool true)) 4)) ((List.replicate N false).set vl true)) := hide (by have h := (unhide HNB0).set vl true; simpa [go_sem] using h)
  clear hb1 HMB HNB0 HF1 HV
  go_wp2
  obtain ⟨g, hg⟩ : ∃ g, g = W1.heap.size := ⟨_, rfl⟩
  have HB2 : Hid (Below W.heap.size W (W1.alloc (.cells (M.setIfInBounds vl (.bool true)) 4))) := hide (bal (unhide HB1) _)
  rw [← hg] at hne HNB1 ⊢
  have hgW : W.heap.size ≤ g := by rw [hg]; exact (unhide HB1).size
  have HGW := hide hgW
  have hgw : w.heap.size ≤ g := Nat.le_trans (unhide HW).size hgW
  clear q3 q3a q3b f1 f2 HB1 HWE hmk i1 i2 hq hvl hg
  go_loopw [7] (fun i wr => ∃ (k : Nat) (ns : List Bool), k ≤ xs.length ∧ i = .int .i64 ((k : Int) - 1) ∧ NB g wr ns ∧ ns.length = N ∧ coneD FA xs k ns = coneB FA xs lit ∧ Below W.heap.size W wr) (fun i wr => (intOf i + 1).toNat)
  case atStart => exact ⟨xs.length, (List.replicate N false).set vl true, Nat.le_refl _, rfl, unhide HNB1, by simp, unhide HGOAL, unhide HB2⟩
  case round =>
    obtain ⟨k, ns, hk, rfl, hnb, hns, hcd, hb⟩ := hrel
    clear HNB1 HB2 HGOAL
    cases k with
    | zero =>
      have HNB := hide (show NB g wr (coneB FA xs lit) by rw [← hcd]; exact hnb)
      have HB := hide (btr (unhide HW) hb)
      have HG := hide hgw
      clear hnb hcd hb HCS HAO HC3 hgW hgw
      have hm1 : ((0 : Nat) : Int) - 1 = -1 := by decide
      rw [hm1]
      go_wp2
      exact bodyPost_ret (v := .slice (some ⟨g, 0, none⟩) N N) (by simp [results, Try.results19, go_sem]) rfl ⟨⟨g, rfl, unhide HNB, unhide HG⟩, unhide HB⟩
    | succ k =>
      have hkk : ((k + 1 : Nat) : Int) - 1 = (k : Int) := by omega
      rw [hkk]
      have hlt : k < xs.length := by omega
      have hx : xs[k]? = some xs[k] := List.getElem?_eq_getElem hlt
      generalize xs[k] = x at hx
      obtain ⟨bb, oo, rfl, hc0, hc1⟩ := unhide HCS k x hx
      obtain ⟨ha1, ha2, hb1, hb2⟩ := unhide HAO k x hx
      have hbw := btr (unhide HW) hb
      have hN2 := unhide HNE
      have hFk : FA + k < ns.length := by omega
      obtain ⟨yn, hnk⟩ : ∃ yn, ns[FA + k]? = some yn := ⟨_, List.getElem?_eq_getElem hFk⟩
      have q3 := unhide HC3 wr hb
      have z0 := cell_later hbw hc0
      have hFb : FA ≤ 4194304 := by omega
      obtain ⟨m, hm⟩ : ∃ m : Nat, m = FA + k := ⟨_, rfl⟩
      have hsumk : (FA : Int) + (k : Int) = (m : Int) := by omega
      have j1 : (0 : Int) ≤ (m : Int) := by omega
      have j2 : (m : Int) < (N : Int) := by omega
      obtain ⟨n0, n1⟩ := hnb (FA + k) _ hnk
      rw [← hm] at n0 n1
      have k1 : (0 : Int) ≤ (k : Int) := by omega
      have k2 : (k : Int) < (xs.length : Int) := by omega
      cases yn with
      | false =>
        have HCD := hide (show coneD FA xs k ns = coneB FA xs lit by rw [← hcd, coneD, stN_no hx hnk])
        have HNB := hide hnb
        have HB := hide hb
        have HNS := hide hns
        clear hnb hcd hb HCS HAO hc0 hc1 hbw hx hnk hN2 hsum hkk hns hFk HNE hk hl0 hl2 hNb hm ha1 ha2 hb1 hb2 z0 hgW hgw
        go_wp2
        exact ⟨⟨k, ns, by omega, by go_num, unhide HNB, unhide HNS, unhide HCD, unhide HB⟩, by simp [intOf]⟩
      | true =>
        obtain ⟨na, hna⟩ : ∃ n, n = vN x.a := ⟨_, rfl⟩
        obtain ⟨nb, hnb'⟩ : ∃ n, n = vN x.b := ⟨_, rfl⟩
        have hva : x.a / 2 = (na : Int) := by rw [hna]; exact vN_of ha1
        have hvb : x.b / 2 = (nb : Int) := by rw [hnb']; exact vN_of hb1
        have hla : na < N := by have := vN_lt ha1 ha2; omega
        have hlb : nb < N := by have := vN_lt hb1 hb2; omega
        have hmk2 : (ns.set na true).set nb true = mkN ns x := by unfold mkN; rw [hna, hnb']
        have HCD := hide (show coneD FA xs k (mkN ns x) = coneB FA xs lit by rw [← hcd, coneD, stN_yes hx hnk])
        have hnb1 := hnb.set na true
        have HNB := hide (hnb1.set nb true)
        rw [hmk2] at HNB
        have HB := hide (bst (bst hb (a := ⟨g, na, none⟩) hgW (.bool true)) (a := ⟨g, nb, none⟩) hgW (.bool true))
        have HNS := hide (show (mkN ns x).length = N by rw [mkN_len]; exact hns)
        have q3c := unhide HC3 _ (bst hb (a := ⟨g, na, none⟩) hgW (.bool true))
        have z1 := cell_later (btr (unhide HW) (bst hb (a := ⟨g, na, none⟩) hgW (.bool true))) hc1
        obtain ⟨ya, hya⟩ : ∃ y, ns[na]? = some y := ⟨_, List.getElem?_eq_getElem (by omega)⟩
        obtain ⟨yb, hyb⟩ : ∃ y, (ns.set na true)[nb]? = some y := ⟨_, List.getElem?_eq_getElem (by simp; omega)⟩
        obtain ⟨y1, y2⟩ := hnb na _ hya
        obtain ⟨y3, y4⟩ := hnb1 nb _ hyb
        have p1 : (0 : Int) ≤ (na : Int) := by omega
        have p2 : (na : Int) < (N : Int) := by omega
        have p3 : (0 : Int) ≤ (nb : Int) := by omega
        have p4 : (nb : Int) < (N : Int) := by omega
        have ua : x.a ≤ 8388608 := by omega
        have ub : x.b ≤ 8388608 := by omega
        obtain ⟨za, hza⟩ : ∃ z, x.a = z := ⟨_, rfl⟩
        obtain ⟨zb, hzb⟩ : ∃ z, x.b = z := ⟨_, rfl⟩
        rw [hza] at ha1 hva z0 ua
        rw [hzb] at hb1 hvb z1 ub
        clear hnb hnb1 hcd hb HCS HAO hc0 hc1 hbw hx hnk hN2 ha2 hb2 hla hlb hns hFk hsum hkk HNE hk hl0 hl2 hNb hm hgW hgw hna hnb' hza hzb hmk2 hya hyb
        go_wp2
        exact ⟨⟨k, mkN ns x, by omega, by go_num, unhide HNB, unhide HNS, unhide HCD, unhide HB⟩, by simp [intOf]⟩
end Go.Proofs.Ytnoklbnacfmpdac
