/- The specification's AigOK. -/
import Derived.Test.YtnoklbnacfmpdacSPa
import Derived.Test.YtnoklbnacfmpdacAFa
namespace Go.Proofs.Ytnoklbnacfmpdac
open Go Go.RowKit Gs
set_option linter.unusedVariables false
set_option linter.unusedSimpArgs false
set_option maxRecDepth 100000
/-- How many variables a graph has. -/
def varsA (a : Aig) : Nat := 1 + a.ins.length + a.latches.length + a.ands.length
def latS (VV n1 : Nat) (l : Latch) : Bool := litB l.next VV && latchB n1 l
/-- What the specification's AigOK answers. -/
def aigS (a : Aig) : Bool := countsA a && (a.latches.all (latS (varsA a) a.clocks.length) && (andsB (1 + a.ins.length + a.latches.length) a.ands && (namesB (a.ins ++ a.clocks) && (namesB (a.latches.map (fun l : Latch => l.name)) && (pinsB (varsA a) a.outs && pinsB (varsA a) a.checks)))))
theorem own_ne {B : Nat} {v : Value} {xs : List ByteArray} {W : World} (h : OS B W v xs) {g : Nat} (hg : W.heap.size ≤ g) : some g ≠ v.ownBlock := fun e => by
  have := (World.ownsRow.lt h.1 g e.symm).2
  omega
set_option maxHeartbeats 64000000 in
theorem sAigOK (g : Aig) (u : List Value) (w : World) (hl : szAig g ≤ 1048576) (hr : RAig w 0 g u) :
    Calls Try.prog 17 #[.agg u.toArray] w fun e w' => e = .returned (.bool (aigS g)) ∧ Below w.heap.size w w' := by
  have hz : szAig g = szL (fun (s : ByteArray) => s.size) g.ins + szL (fun (s : ByteArray) => s.size) g.clocks + szL szLatch g.latches + szL szAndG g.ands + szL szPin g.outs + szL szPin g.checks := rfl
  have z0 := szL_sm (fun (s : ByteArray) => s.size) g.ins
  have z1 := szL_sm (fun (s : ByteArray) => s.size) g.clocks
  have z2 := szL_sm szLatch g.latches
  have z3 := szL_sm szAndG g.ands
  have z4 := szL_sm szPin g.outs
  have z5 := szL_sm szPin g.checks
  have b0 : g.ins.length ≤ 1048576 := by omega
  have b1 : g.clocks.length ≤ 1048576 := by omega
  have b2 : g.latches.length ≤ 1048576 := by omega
  have b3 : g.ands.length ≤ 1048576 := by omega
  have b4 : g.outs.length ≤ 1048576 := by omega
  have b5 : g.checks.length ≤ 1048576 := by omega
  clear hz z0 z1 z2 z3 z4 z5 hl
  obtain ⟨v0, v1, v2, v3, v4, v5, rfl, h0, h1, h2, h3, h4, h5⟩ := hr
  obtain ⟨s0, c0, rfl⟩ := h0.slice
  obtain ⟨l0, e0⟩ : ∃ l, g.ins.length = l := ⟨_, rfl⟩
  rw [e0] at h0 b0
  obtain ⟨s1, c1, rfl⟩ := h1.slice
  obtain ⟨l1, e1⟩ : ∃ l, g.clocks.length = l := ⟨_, rfl⟩
  rw [e1] at h1 b1
  obtain ⟨s2, c2, rfl⟩ := h2.slice
  obtain ⟨l2, e2⟩ : ∃ l, g.latches.length = l := ⟨_, rfl⟩
  rw [e2] at h2 b2
  obtain ⟨s3, c3, rfl⟩ := h3.slice
  obtain ⟨l3, e3⟩ : ∃ l, g.ands.length = l := ⟨_, rfl⟩
  rw [e3] at h3 b3
  obtain ⟨s4, c4, rfl⟩ := h4.slice
  obtain ⟨l4, e4⟩ : ∃ l, g.outs.length = l := ⟨_, rfl⟩
  rw [e4] at h4 b4
  obtain ⟨s5, c5, rfl⟩ := h5.slice
  obtain ⟨l5, e5⟩ : ∃ l, g.checks.length = l := ⟨_, rfl⟩
  rw [e5] at h5 b5
  have HD : Hid (aigS g = (countsN l0 l1 l2 l3 l4 l5 && (g.latches.all (latS (1 + l0 + l2 + l3) l1) && (andsB (1 + l0 + l2) g.ands && (namesB (g.ins ++ g.clocks) && (namesB (g.latches.map (fun l : Latch => l.name)) && (pinsB (1 + l0 + l2 + l3) g.outs && pinsB (1 + l0 + l2 + l3) g.checks))))))) := hide (by
    unfold aigS varsA countsA
    rw [e0, e1, e2, e3, e4, e5])
  have HLT := hide (fun (V : World) (x : Int) => sLit s0 s1 s2 s3 s4 s5 l0 l1 l2 l3 l4 l5 c0 c1 c2 c3 c4 c5 x V b0 b2 b3)
  have HP4 := hide (fun (V : World) (hb : Below w.heap.size w V) => sPins s0 s1 s2 s3 s4 s5 l0 l1 l2 l3 l4 l5 c0 c1 c2 c3 c4 c5 g.outs _ V b0 b2 b3 (by omega) (h4.later RPin.keeps hb))
  have HP5 := hide (fun (V : World) (hb : Below w.heap.size w V) => sPins s0 s1 s2 s3 s4 s5 l0 l1 l2 l3 l4 l5 c0 c1 c2 c3 c4 c5 g.checks _ V b0 b2 b3 (by omega) (h5.later RPin.keeps hb))
  rw [e0, e1, e2, e3, e4, e5]
  generalize aigS g = RR at *
  have HC1 : Hid (∀ V, Below (w.alloc (.cells #[.slice s0 l0 c0, .slice s1 l1 c1, .slice s2 l2 c2, .slice s3 l3 c3, .slice s4 l4 c4, .slice s5 l5 c5] 36)).heap.size (w.alloc (.cells #[.slice s0 l0 c0, .slice s1 l1 c1, .slice s2 l2 c2, .slice s3 l3 c3, .slice s4 l4 c4, .slice s5 l5 c5] 36)) V → V.cell? ⟨w.heap.size, 0, none⟩ = some (.slice s0 l0 c0) ∧ V.cell? ⟨w.heap.size, 1, none⟩ = some (.slice s1 l1 c1) ∧ V.cell? ⟨w.heap.size, 2, none⟩ = some (.slice s2 l2 c2) ∧ V.cell? ⟨w.heap.size, 3, none⟩ = some (.slice s3 l3 c3) ∧ V.cell? ⟨w.heap.size, 4, none⟩ = some (.slice s4 l4 c4) ∧ V.cell? ⟨w.heap.size, 5, none⟩ = some (.slice s5 l5 c5)) := hide (fun V hb => ⟨cell_later hb (by rw [World.cell?_alloc_new]; rfl), cell_later hb (by rw [World.cell?_alloc_new]; rfl), cell_later hb (by rw [World.cell?_alloc_new]; rfl), cell_later hb (by rw [World.cell?_alloc_new]; rfl), cell_later hb (by rw [World.cell?_alloc_new]; rfl), cell_later hb (by rw [World.cell?_alloc_new]; rfl)⟩)
  obtain ⟨W, hW⟩ : ∃ W, W = w.alloc (.cells #[.slice s0 l0 c0, .slice s1 l1 c1, .slice s2 l2 c2, .slice s3 l3 c3, .slice s4 l4 c4, .slice s5 l5 c5] 36) := ⟨_, rfl⟩
  have HW : Hid (Below w.heap.size w W) := hide (by rw [hW]; exact bal (brf w) _)
  rw [← hW] at HC1
  have HW' := hide hW
  clear hW
  by_cases k3 : (8192 : Int) < (l3 : Int)
  · have HF : Hid (RR = false) := hide (by
      rw [unhide HD]
      unfold countsN
      rw [decide_eq_false (p := l3 ≤ 8192) (by omega)]
      simp)
    clear HC1 HD HLT HP4 HP5 h0 h1 h2 h3 h4 h5
    go_enter Try.func17, Try.ntmps17
    go_wp2
    exact bodyPost_ret (v := .bool false) (by simp [results, Try.results17, go_sem]) rfl ⟨by rw [unhide HF], bal (brf w) _⟩
  by_cases k02 : (2048 : Int) < (l0 : Int) + (l2 : Int)
  · have HF : Hid (RR = false) := hide (by
      rw [unhide HD]
      unfold countsN
      rw [decide_eq_false (p := l0 + l2 ≤ 2048) (by omega)]
      simp)
    clear HC1 HD HLT HP4 HP5 h0 h1 h2 h3 h4 h5
    have f0 : decide ((8192 : Int) < (l3 : Int)) = false := decide_eq_false k3
    go_enter Try.func17, Try.ntmps17
    go_wp2
    exact bodyPost_ret (v := .bool false) (by simp [results, Try.results17, go_sem]) rfl ⟨by rw [unhide HF], bal (brf w) _⟩
  by_cases k4 : (2048 : Int) < (l4 : Int)
  · have HF : Hid (RR = false) := hide (by
      rw [unhide HD]
      unfold countsN
      rw [decide_eq_false (p := l4 ≤ 2048) (by omega)]
      simp)
    clear HC1 HD HLT HP4 HP5 h0 h1 h2 h3 h4 h5
    have f0 : decide ((8192 : Int) < (l3 : Int)) = false := decide_eq_false k3
    have f1 : decide ((2048 : Int) < (l0 : Int) + (l2 : Int)) = false := decide_eq_false k02
    go_enter Try.func17, Try.ntmps17
    go_wp2
    exact bodyPost_ret (v := .bool false) (by simp [results, Try.results17, go_sem]) rfl ⟨by rw [unhide HF], bal (brf w) _⟩
  by_cases k5 : (2048 : Int) < (l5 : Int)
  · have HF : Hid (RR = false) := hide (by
      rw [unhide HD]
      unfold countsN
      rw [decide_eq_false (p := l5 ≤ 2048) (by omega)]
      simp)
    clear HC1 HD HLT HP4 HP5 h0 h1 h2 h3 h4 h5
    have f0 : decide ((8192 : Int) < (l3 : Int)) = false := decide_eq_false k3
    have f1 : decide ((2048 : Int) < (l0 : Int) + (l2 : Int)) = false := decide_eq_false k02
    have f2 : decide ((2048 : Int) < (l4 : Int)) = false := decide_eq_false k4
    go_enter Try.func17, Try.ntmps17
    go_wp2
    exact bodyPost_ret (v := .bool false) (by simp [results, Try.results17, go_sem]) rfl ⟨by rw [unhide HF], bal (brf w) _⟩
  by_cases k1 : (8 : Int) < (l1 : Int)
  · have HF : Hid (RR = false) := hide (by
      rw [unhide HD]
      unfold countsN
      rw [decide_eq_false (p := l1 ≤ 8) (by omega)]
      simp)
    clear HC1 HD HLT HP4 HP5 h0 h1 h2 h3 h4 h5
    have f0 : decide ((8192 : Int) < (l3 : Int)) = false := decide_eq_false k3
    have f1 : decide ((2048 : Int) < (l0 : Int) + (l2 : Int)) = false := decide_eq_false k02
    have f2 : decide ((2048 : Int) < (l4 : Int)) = false := decide_eq_false k4
    have f3 : decide ((2048 : Int) < (l5 : Int)) = false := decide_eq_false k5
    go_enter Try.func17, Try.ntmps17
    go_wp2
    exact bodyPost_ret (v := .bool false) (by simp [results, Try.results17, go_sem]) rfl ⟨by rw [unhide HF], bal (brf w) _⟩
  have HD2 : Hid (RR = (g.latches.all (latS (1 + l0 + l2 + l3) l1) && (andsB (1 + l0 + l2) g.ands && (namesB (g.ins ++ g.clocks) && (namesB (g.latches.map (fun l : Latch => l.name)) && (pinsB (1 + l0 + l2 + l3) g.outs && pinsB (1 + l0 + l2 + l3) g.checks)))))) := hide (by
    rw [unhide HD]
    rw [show countsN l0 l1 l2 l3 l4 l5 = true by unfold countsN; rw [decide_eq_true (p := l3 ≤ 8192) (by omega), decide_eq_true (p := l0 + l2 ≤ 2048) (by omega), decide_eq_true (p := l4 ≤ 2048) (by omega), decide_eq_true (p := l5 ≤ 2048) (by omega), decide_eq_true (p := l1 ≤ 8) (by omega)]; rfl]
    rfl)
  have f0 : decide ((8192 : Int) < (l3 : Int)) = false := decide_eq_false k3
  have f1 : decide ((2048 : Int) < (l0 : Int) + (l2 : Int)) = false := decide_eq_false k02
  have f2 : decide ((2048 : Int) < (l4 : Int)) = false := decide_eq_false k4
  have f3 : decide ((2048 : Int) < (l5 : Int)) = false := decide_eq_false k5
  have f4 : decide ((8 : Int) < (l1 : Int)) = false := decide_eq_false k1
  have d0 : l0 ≤ 2048 := by omega
  have d1 : l1 ≤ 8 := by omega
  have d2 : l2 ≤ 2048 := by omega
  have d3 : l3 ≤ 8192 := by omega
  have H0 := hide (fun (V : World) (hb : Below w.heap.size w V) => h0.later RStr.keeps hb)
  have H1 := hide (fun (V : World) (hb : Below w.heap.size w V) => h1.later RStr.keeps hb)
  have HE := hide (And.intro e0 (And.intro e1 (And.intro e2 e3)))
  obtain ⟨i0, hi, hz0, hz1, hz2⟩ := info_parts info9
  have HI := hide (And.intro hi (And.intro hz0 (And.intro hz1 hz2)))
  clear hi hz0 hz1 hz2
  have HLC : Hid (∀ (i : Nat) x, g.latches[i]? = some x → ∃ b o, s2 = some ⟨b, o, none⟩ ∧ w.cell? ⟨b, o + i * 4, none⟩ = some (.string x.name) ∧ w.cell? ⟨b, o + i * 4 + 1, none⟩ = some (.int .i64 x.next) ∧ w.cell? ⟨b, o + i * 4 + 2, none⟩ = some (.int .i64 x.init) ∧ w.cell? ⟨b, o + i * 4 + 3, none⟩ = some (.int .i64 x.clock) ∧ x.name.size ≤ maxLen) := hide (by
    intro i x hx
    rcases h2.open with ⟨hn, _⟩ | ⟨b, o, c', hv, _, _, _, he⟩
    · rw [hn] at hx; simp at hx
    · injection hv with g1 g2 g3
      obtain ⟨u, hu, hat, hux, hs⟩ := he i x hx
      subst hux
      exact ⟨b, o, g1, by simpa using hat.get (j := 0) rfl, by simpa using hat.get (j := 1) rfl, by simpa using hat.get (j := 2) rfl, by simpa using hat.get (j := 3) rfl, hs⟩)
  have HAC : Hid (∀ (i : Nat) x, g.ands[i]? = some x → ∃ b o, s3 = some ⟨b, o, none⟩ ∧ w.cell? ⟨b, o + i * 2, none⟩ = some (.int .i64 x.a) ∧ w.cell? ⟨b, o + i * 2 + 1, none⟩ = some (.int .i64 x.b)) := hide (by
    intro i x hx
    rcases h3.open with ⟨hn, _⟩ | ⟨b, o, c', hv, _, _, _, he⟩
    · rw [hn] at hx; simp at hx
    · injection hv with g1 g2 g3
      obtain ⟨u, hu, hat, hux⟩ := he i x hx
      subst hux
      exact ⟨b, o, g1, by simpa using hat.get (j := 0) rfl, by simpa using hat.get (j := 1) rfl⟩)
  have HLEN3 := hide (show ([] : List ByteArray).length + g.ins.length ≤ 4194304 by have := unhide HE; simp; omega)
  have HLEN6 := hide (show g.ins.length + g.clocks.length ≤ 4194304 by have := unhide HE; omega)
  clear HD h0 h1 h2 h3 h4 h5 e0 e1 e2 e3 e4 e5 b0 b1 b2 b3 b4 b5
  go_enter Try.func17, Try.ntmps17
  go_wp2
  rw [← unhide HW']
  clear f0 f1 f2 f3 f4 k3 k02 k4 k5 k1
  refine wp_plan (GA w.heap.size W.heap.size (.slice s0 l0 c0) (.slice s1 l1 c1) g.ins g.clocks) (JA W) (by kernel_rfl) 159 (by kernel_rfl) (by kernel_rfl) ?hj ?hs ?hf
  case hj => exact ⟨bdr (brf W), fun h => (by simp [Array.getD] at h), fun h => (by simp [Array.getD] at h)⟩
  case hs =>
    refine ⟨?_, ?_, ?_, ?_, ?_, ?_, ?_, ?_, trivial⟩
    · intro l a V hp hu ha
      unfold opW
      rw [if_pos (wanted_none rfl)]
      refine .inl ⟨.slice (some ⟨V.heap.size, 0, none⟩) 0 0, V.alloc (.cells #[] 9), by go_simp, _, rfl, hp.j.keep (by decide) (bal (brf V) _), fun _ => OS_start rfl hp.j.1.size, fun _ _ _ _ h => h.keep (bal (brf V) _)⟩
    · exact sa_val (by decide) rfl (fun l a V hp ha => ⟨.pointer (some ⟨w.heap.size, 0, none⟩), by
        have x1 := (ev_form a 1).trans (old hp 1 (v := .pointer (some ⟨w.heap.size, 0, none⟩)) (by kernel_rfl) (by kernel_rfl))
        go_simp, fun _ => rfl⟩)
    · exact sa_val (by decide) rfl (fun l a V hp ha => ⟨(.slice s0 l0 c0), by
        have x43 := (ev_form a 43).trans (show a.eval (.tmp 43) = .pointer (some ⟨w.heap.size, 0, none⟩) from kn hp ha 43 1 (by kernel_rfl) (by kernel_rfl))
        obtain ⟨q0, q1, q2, q3, q4, q5⟩ := unhide HC1 V hp.j.1
        go_simp, fun _ => rfl⟩)
    · intro l a V hp hu ha
      have hA : OS W.heap.size V (a.eval (.tmp 42)) [] := (show GA w.heap.size W.heap.size (.slice s0 l0 c0) (.slice s1 l1 c1) g.ins g.clocks l 0 V (a.eval (.tmp 42)) from kn hp ha 42 0 (by kernel_rfl) (by kernel_rfl)) (not_done hu)
      have hX : a.eval (.tmp 44) = (.slice s0 l0 c0) := kn hp ha 44 2 (by kernel_rfl) (by kernel_rfl)
      refine opApp rfl (.tmp 42) (.tmp 44) rfl W.heap.size _ [] rfl hA _ g.ins hX (unhide H0 V (btr (unhide HW) hp.j.1)) (unhide HLEN3) hp.j.1.size ?_
      intro v' w' ho hgr
      have hB' : Below W.heap.size W w' := below_grown hp.j.1 hgr hp.j.1.size (own_row hA.1)
      have D0 := onB_spec (by kernel_rfl : onB _ 0 = true) ha
      have n6 : l.getD 6 false = false := by
        cases e : l.getD 6 false with
        | false => rfl
        | true => have := not_done hu; rw [hp.j.2.1 e] at this; cases this
      have n7 : l.getD 7 false = false := by
        cases e : l.getD 7 false with
        | false => rfl
        | true => rw [hp.j.2.2 e] at n6; cases n6
      refine ⟨v', rfl, ⟨hB', fun e => now_done hu, fun e => by rw [get_ne (by decide), n7] at e; cases e⟩, fun _ => ho, fun j d hd hj h => ?_⟩
      match j, hj, h with
      | 0, hj, h => exact fun e => by rw [now_done hu] at e; cases e
      | 1, hj, h => exact h
      | 2, hj, h => exact h
      | 3, hj, h => rw [not_done hu] at hj; cases hj
      | 4, hj, h => exact h
      | 5, hj, h => exact h
      | 6, hj, h => rw [n6] at hj; cases hj
      | 7, hj, h => rw [n7] at hj; cases hj
      | _ + 8, hj, h => trivial
    · exact sa_val (by decide) rfl (fun l a V hp ha => ⟨.pointer (some ⟨w.heap.size, 1, none⟩), by
        have x1 := (ev_form a 1).trans (old hp 1 (v := .pointer (some ⟨w.heap.size, 0, none⟩)) (by kernel_rfl) (by kernel_rfl))
        go_simp, fun _ => rfl⟩)
    · exact sa_val (by decide) rfl (fun l a V hp ha => ⟨(.slice s1 l1 c1), by
        have x46 := (ev_form a 46).trans (show a.eval (.tmp 46) = .pointer (some ⟨w.heap.size, 1, none⟩) from kn hp ha 46 4 (by kernel_rfl) (by kernel_rfl))
        obtain ⟨q0, q1, q2, q3, q4, q5⟩ := unhide HC1 V hp.j.1
        go_simp, fun _ => rfl⟩)
    · intro l a V hp hu ha
      have hA : OS W.heap.size V (a.eval (.tmp 45)) g.ins := (show GA w.heap.size W.heap.size (.slice s0 l0 c0) (.slice s1 l1 c1) g.ins g.clocks l 3 V (a.eval (.tmp 45)) from kn hp ha 45 3 (by kernel_rfl) (by kernel_rfl)) (not_done hu)
      have hX : a.eval (.tmp 47) = (.slice s1 l1 c1) := kn hp ha 47 5 (by kernel_rfl) (by kernel_rfl)
      refine opApp rfl (.tmp 45) (.tmp 47) rfl W.heap.size _ g.ins rfl hA _ g.clocks hX (unhide H1 V (btr (unhide HW) hp.j.1)) (unhide HLEN6) hp.j.1.size ?_
      intro v' w' ho hgr
      have hB' : Below W.heap.size W w' := below_grown hp.j.1 hgr hp.j.1.size (own_row hA.1)
      have D3 := onB_spec (by kernel_rfl : onB _ 3 = true) ha
      have n7 : l.getD 7 false = false := by
        cases e : l.getD 7 false with
        | false => rfl
        | true => have := not_done hu; rw [hp.j.2.2 e] at this; cases this
      refine ⟨v', rfl, ⟨hB', fun e => get_mono D3, fun e => now_done hu⟩, ho, fun j d hd hj h => ?_⟩
      match j, hj, h with
      | 0, hj, h => exact fun e => by rw [get_mono D3] at e; cases e
      | 1, hj, h => exact h
      | 2, hj, h => exact h
      | 3, hj, h => exact fun e => by rw [now_done hu] at e; cases e
      | 4, hj, h => exact h
      | 5, hj, h => exact h
      | 6, hj, h => rw [not_done hu] at hj; cases hj
      | 7, hj, h => rw [n7] at hj; cases hj
      | _ + 8, hj, h => trivial
    · intro l a V hp hu ha
      have f48 : OS W.heap.size V (a.eval (.tmp 48)) (g.ins ++ g.clocks) := kn hp ha 48 6 (by kernel_rfl) (by kernel_rfl)
      have D6 := onB_spec (by kernel_rfl : onB _ 6 = true) ha
      have x48 := ev_form a 48
      unfold opW
      rw [if_pos (wanted_none rfl)]
      refine .inl ⟨a.eval (.tmp 48), V, by obtain ⟨t1, t2, t3, ht⟩ := f48.shape; rw [ht] at x48 ⊢; go_simp, _, rfl, ⟨hp.j.1, fun e => get_mono (hp.j.2.1 D6), fun e => get_mono D6⟩, f48, fun _ _ _ _ h => h.keep (brf V)⟩
  case hf =>
    intro l a V hp hall
    have hv : OS W.heap.size V (a.eval (.tmp 3)) (g.ins ++ g.clocks) := hp.good 7 _ 3 rfl rfl (hall 7 (by decide))
    have HBV := hide hp.j.1
    obtain ⟨us, rfl, hus⟩ := putAll_of [42, 43, 44, 45, 46, 47, 48, 3] hp.nt hp.df (fun t ht => hp.keep t (dstIn (by kernel_rfl) ht))
    rw [← hus 3] at hv
    have HNV := hide hv
    clear hp hall hus hv
    simp only [putAll, List.foldl, Act.put, List.setIfInBounds_toArray, List.set_cons_zero, List.set_cons_succ]
    generalize us 42 = y42 at *
    generalize us 43 = y43 at *
    generalize us 44 = y44 at *
    generalize us 45 = y45 at *
    generalize us 46 = y46 at *
    generalize us 47 = y47 at *
    generalize us 48 = y48 at *
    generalize us 3 = y3 at *
    have HNR := hide (fun (U : World) (hU : Below V.heap.size V U) => sNames (g.ins ++ g.clocks) y3 U (by have := unhide HE; rw [List.length_append]; omega) (((unhide HNV).later hU).any (by have := unhide HE; rw [List.length_append]; omega)))
    clear HNV H0 H1 HLEN3 HLEN6
    obtain ⟨VV, hVV⟩ : ∃ VV, 1 + l0 + l2 + l3 = VV := ⟨_, rfl⟩
    obtain ⟨FA, hFA⟩ : ∃ FA, 1 + l0 + l2 = FA := ⟨_, rfl⟩
    rw [hVV] at HLT HP4 HP5 HD2
    rw [hFA] at HD2
    have qFA : (1 : Int) + (l0 : Int) + (l2 : Int) = (FA : Int) := by omega
    have hFb : FA ≤ 4097 := by omega
    clear hVV hFA
    generalize g.latches = ls at *
    generalize g.ands = an at *
    have hls : l2 = ls.length := (unhide HE).2.2.1.symm
    have han : l3 = an.length := (unhide HE).2.2.2.symm
    have HLS := hide hls
    have HAN := hide han
    clear hls han HE
    go_wp2
    go_loopw [4, 5] (fun vl i wr => ∃ k : Nat, k ≤ l2 ∧ i = .int .i64 k ∧ OS V.heap.size wr vl ((ls.take k).map (fun l : Latch => l.name)) ∧ (ls.take k).all (latS VV l1) = true ∧ Below V.heap.size V wr) (fun vl i wr => l2 - (intOf i).toNat)
    case atStart => exact ⟨0, Nat.zero_le _, rfl, OS_start rfl (Nat.le_refl _), rfl, bal (brf V) _⟩
    case round =>
      obtain ⟨k, hk, rfl, ho, hall, hb⟩ := hrel
      have HO := hide ho
      have HA := hide hall
      have HB := hide hb
      clear ho hall
      obtain ⟨q0, q1, q2, q3, q4, q5⟩ := unhide HC1 wr (btr (unhide HBV) hb)
      by_cases hlt : k < l2
      · have hkl : k < ls.length := by have := unhide HLS; omega
        have hx : ls[k]? = some ls[k] := List.getElem?_eq_getElem hkl
        have hmem : ls[k] ∈ ls := List.getElem_mem hkl
        generalize ls[k] = x at hx hmem
        have HST := hide (show (ls.take (k + 1)).map (fun l : Latch => l.name) = (ls.take k).map (fun l : Latch => l.name) ++ [x.name] by rw [List.take_add_one, hx, List.map_append]; rfl)
        have HLEN := hide (show ((ls.take k).map (fun l : Latch => l.name)).length = k by rw [List.length_map, List.length_take]; omega)
        have HSA := hide (show (ls.take (k + 1)).all (latS VV l1) = ((ls.take k).all (latS VV l1) && latS VV l1 x) by rw [List.take_add_one, hx, List.all_append]; simp)
        have HF : Hid (latS VV l1 x = false → RR = false) := hide (fun h => by
          rw [unhide HD2, show ls.all (latS VV l1) = false from by rw [← Bool.not_eq_true]; intro e; rw [List.all_eq_true.1 e x hmem] at h; cases h]
          rfl)
        obtain ⟨b, o, hs2, hc0, hc1, hc2, hc3, hsz⟩ := unhide HLC k x hx
        have hw := btr (unhide HW) (btr (unhide HBV) hb)
        have k0 := cell_later hw hc0
        have k1 := cell_later hw hc1
        have k2 := cell_later hw hc2
        have k3 := cell_later hw hc3
        have HN := hide hsz
        have HSZ := hide hb.size
        have i1 : (0 : Int) ≤ (k : Int) := by omega
        have i2 : (k : Int) < (l2 : Int) := by omega
        have HDF : Hid (latS VV l1 x = (litB x.next VV && ((decide (0 ≤ x.init) && decide (x.init < 2)) && (decide (0 ≤ x.clock) && decide (x.clock < (l1 : Int)))))) := hide rfl
        clear hx hmem hc0 hc1 hc2 hc3 hsz hb hw hkl HAC HP4 HP5 HNR HD2 HLC
        generalize latS VV l1 x = LL at *
        generalize x.name = nm at *
        generalize x.next = z1 at *
        generalize x.init = z2 at *
        generalize x.clock = z3 at *
        generalize hp1 : litB z1 VV = p1 at *
        have HP1 := hide hp1
        clear hp1
        subst hs2
        cases p1
        · have HFF : Hid (RR = false) := hide (unhide HF (by rw [unhide HDF]; rfl))
          go_wp2_with (first
            | (at_builtin; refine wpList_append_own _ rfl _ _ 22 rfl V.heap.size 9 i0 (.string ByteArray.empty) 1 16 Try.underlying22 (unhide HI).1 (unhide HI).2.1 (unhide HI).2.2.1 (unhide HI).2.2.2 rfl (by decide) _ _ _ rfl (((unhide HO).1.alloc _).alloc _) ⟨wr.heap.size + 1, 0, none⟩ 1 1 [.string nm] rfl rfl (newS _ _ _ (by simp)) (oneS _) (by have := unhide HLEN; unfold maxLen; omega) (by have := unhide HLEN; omega) (by have := unhide HSZ; simp; omega) ?_; intro v' w2 hown' hgrow _; have HBB := hide (below_grown (bal (bal (unhide HB) (.cells #[.string nm, .int .i64 z1, .int .i64 z2, .int .i64 z3] 80)) (.cells #[.string nm] 9)) hgrow (by have := unhide HSZ; simp; omega) (own_row (unhide HO).1)); obtain ⟨r0, r1, r2, r3, r4, r5⟩ := unhide HC1 w2 (btr (unhide HBV) (unhide HBB)); have m1 := hgrow.cell (cell_later (bal (brf (wr.alloc (.cells #[.string nm, .int .i64 z1, .int .i64 z2, .int .i64 z3] 80))) (.cells #[.string nm] 9)) (show (wr.alloc (.cells #[.string nm, .int .i64 z1, .int .i64 z2, .int .i64 z3] 80)).cell? ⟨wr.heap.size, 1, none⟩ = some (.int .i64 z1) by rw [World.cell?_alloc_new]; rfl)) (own_ne (unhide HO) (Nat.le_refl _)); have m2 := hgrow.cell (cell_later (bal (brf (wr.alloc (.cells #[.string nm, .int .i64 z1, .int .i64 z2, .int .i64 z3] 80))) (.cells #[.string nm] 9)) (show (wr.alloc (.cells #[.string nm, .int .i64 z1, .int .i64 z2, .int .i64 z3] 80)).cell? ⟨wr.heap.size, 2, none⟩ = some (.int .i64 z2) by rw [World.cell?_alloc_new]; rfl)) (own_ne (unhide HO) (Nat.le_refl _)); have m3 := hgrow.cell (cell_later (bal (brf (wr.alloc (.cells #[.string nm, .int .i64 z1, .int .i64 z2, .int .i64 z3] 80))) (.cells #[.string nm] 9)) (show (wr.alloc (.cells #[.string nm, .int .i64 z1, .int .i64 z2, .int .i64 z3] 80)).cell? ⟨wr.heap.size, 3, none⟩ = some (.int .i64 z3) by rw [World.cell?_alloc_new]; rfl)) (own_ne (unhide HO) (Nat.le_refl _)); have HGR := hide hgrow; have HOWN := hide hown'; clear hgrow hown' q0 q1 q2 q3 q4 q5 k0 k1 k2 k3)
            | fail)
          refine (unhide HLT _ z1).mono ?_
          rintro e W3 ⟨rfl, hb3⟩
          rw [unhide HP1]
          have HB3 := hide (btr (unhide HBB) hb3)
          obtain ⟨t0, t1, t2, t3, t4, t5⟩ := unhide HC1 W3 (btr (unhide HBV) (unhide HB3))
          have n1 := cell_later hb3 m1
          have n2 := cell_later hb3 m2
          have n3 := cell_later hb3 m3
          have HR1 : Hid (OS V.heap.size W3 v' ((ls.take (k + 1)).map (fun l : Latch => l.name))) := hide (by rw [unhide HST]; exact OS.later (OS.step (unhide HOWN) (unhide HO).2 (unhide HN)) hb3)
          clear hb3 r0 r1 r2 r3 r4 r5 m1 m2 m3
          go_wp2_with fail
          exact bodyPost_ret (v := .bool false) (by simp [results, Try.results17, go_sem]) rfl ⟨by rw [unhide HFF], btr (unhide HW) (btr (unhide HBV) (unhide HB3))⟩
        · by_cases g1 : z2 < 0
          · have HFF : Hid (RR = false) := hide (unhide HF (by rw [unhide HDF]; rw [decide_eq_false (p := 0 ≤ z2) (by omega)]; rfl))
            go_wp2_with (first
              | (at_builtin; refine wpList_append_own _ rfl _ _ 22 rfl V.heap.size 9 i0 (.string ByteArray.empty) 1 16 Try.underlying22 (unhide HI).1 (unhide HI).2.1 (unhide HI).2.2.1 (unhide HI).2.2.2 rfl (by decide) _ _ _ rfl (((unhide HO).1.alloc _).alloc _) ⟨wr.heap.size + 1, 0, none⟩ 1 1 [.string nm] rfl rfl (newS _ _ _ (by simp)) (oneS _) (by have := unhide HLEN; unfold maxLen; omega) (by have := unhide HLEN; omega) (by have := unhide HSZ; simp; omega) ?_; intro v' w2 hown' hgrow _; have HBB := hide (below_grown (bal (bal (unhide HB) (.cells #[.string nm, .int .i64 z1, .int .i64 z2, .int .i64 z3] 80)) (.cells #[.string nm] 9)) hgrow (by have := unhide HSZ; simp; omega) (own_row (unhide HO).1)); obtain ⟨r0, r1, r2, r3, r4, r5⟩ := unhide HC1 w2 (btr (unhide HBV) (unhide HBB)); have m1 := hgrow.cell (cell_later (bal (brf (wr.alloc (.cells #[.string nm, .int .i64 z1, .int .i64 z2, .int .i64 z3] 80))) (.cells #[.string nm] 9)) (show (wr.alloc (.cells #[.string nm, .int .i64 z1, .int .i64 z2, .int .i64 z3] 80)).cell? ⟨wr.heap.size, 1, none⟩ = some (.int .i64 z1) by rw [World.cell?_alloc_new]; rfl)) (own_ne (unhide HO) (Nat.le_refl _)); have m2 := hgrow.cell (cell_later (bal (brf (wr.alloc (.cells #[.string nm, .int .i64 z1, .int .i64 z2, .int .i64 z3] 80))) (.cells #[.string nm] 9)) (show (wr.alloc (.cells #[.string nm, .int .i64 z1, .int .i64 z2, .int .i64 z3] 80)).cell? ⟨wr.heap.size, 2, none⟩ = some (.int .i64 z2) by rw [World.cell?_alloc_new]; rfl)) (own_ne (unhide HO) (Nat.le_refl _)); have m3 := hgrow.cell (cell_later (bal (brf (wr.alloc (.cells #[.string nm, .int .i64 z1, .int .i64 z2, .int .i64 z3] 80))) (.cells #[.string nm] 9)) (show (wr.alloc (.cells #[.string nm, .int .i64 z1, .int .i64 z2, .int .i64 z3] 80)).cell? ⟨wr.heap.size, 3, none⟩ = some (.int .i64 z3) by rw [World.cell?_alloc_new]; rfl)) (own_ne (unhide HO) (Nat.le_refl _)); have HGR := hide hgrow; have HOWN := hide hown'; clear hgrow hown' q0 q1 q2 q3 q4 q5 k0 k1 k2 k3)
              | fail)
            refine (unhide HLT _ z1).mono ?_
            rintro e W3 ⟨rfl, hb3⟩
            rw [unhide HP1]
            have HB3 := hide (btr (unhide HBB) hb3)
            obtain ⟨t0, t1, t2, t3, t4, t5⟩ := unhide HC1 W3 (btr (unhide HBV) (unhide HB3))
            have n1 := cell_later hb3 m1
            have n2 := cell_later hb3 m2
            have n3 := cell_later hb3 m3
            have HR1 : Hid (OS V.heap.size W3 v' ((ls.take (k + 1)).map (fun l : Latch => l.name))) := hide (by rw [unhide HST]; exact OS.later (OS.step (unhide HOWN) (unhide HO).2 (unhide HN)) hb3)
            clear hb3 r0 r1 r2 r3 r4 r5 m1 m2 m3
            go_wp2_with fail
            exact bodyPost_ret (v := .bool false) (by simp [results, Try.results17, go_sem]) rfl ⟨by rw [unhide HFF], btr (unhide HW) (btr (unhide HBV) (unhide HB3))⟩
          · have a1 : decide (z2 < 0) = false := decide_eq_false g1
            have a1' : 0 ≤ z2 := by omega
            by_cases g2 : 1 < z2
            · have HFF : Hid (RR = false) := hide (unhide HF (by rw [unhide HDF]; rw [decide_eq_false (p := z2 < 2) (by omega)]; simp))
              go_wp2_with (first
                | (at_builtin; refine wpList_append_own _ rfl _ _ 22 rfl V.heap.size 9 i0 (.string ByteArray.empty) 1 16 Try.underlying22 (unhide HI).1 (unhide HI).2.1 (unhide HI).2.2.1 (unhide HI).2.2.2 rfl (by decide) _ _ _ rfl (((unhide HO).1.alloc _).alloc _) ⟨wr.heap.size + 1, 0, none⟩ 1 1 [.string nm] rfl rfl (newS _ _ _ (by simp)) (oneS _) (by have := unhide HLEN; unfold maxLen; omega) (by have := unhide HLEN; omega) (by have := unhide HSZ; simp; omega) ?_; intro v' w2 hown' hgrow _; have HBB := hide (below_grown (bal (bal (unhide HB) (.cells #[.string nm, .int .i64 z1, .int .i64 z2, .int .i64 z3] 80)) (.cells #[.string nm] 9)) hgrow (by have := unhide HSZ; simp; omega) (own_row (unhide HO).1)); obtain ⟨r0, r1, r2, r3, r4, r5⟩ := unhide HC1 w2 (btr (unhide HBV) (unhide HBB)); have m1 := hgrow.cell (cell_later (bal (brf (wr.alloc (.cells #[.string nm, .int .i64 z1, .int .i64 z2, .int .i64 z3] 80))) (.cells #[.string nm] 9)) (show (wr.alloc (.cells #[.string nm, .int .i64 z1, .int .i64 z2, .int .i64 z3] 80)).cell? ⟨wr.heap.size, 1, none⟩ = some (.int .i64 z1) by rw [World.cell?_alloc_new]; rfl)) (own_ne (unhide HO) (Nat.le_refl _)); have m2 := hgrow.cell (cell_later (bal (brf (wr.alloc (.cells #[.string nm, .int .i64 z1, .int .i64 z2, .int .i64 z3] 80))) (.cells #[.string nm] 9)) (show (wr.alloc (.cells #[.string nm, .int .i64 z1, .int .i64 z2, .int .i64 z3] 80)).cell? ⟨wr.heap.size, 2, none⟩ = some (.int .i64 z2) by rw [World.cell?_alloc_new]; rfl)) (own_ne (unhide HO) (Nat.le_refl _)); have m3 := hgrow.cell (cell_later (bal (brf (wr.alloc (.cells #[.string nm, .int .i64 z1, .int .i64 z2, .int .i64 z3] 80))) (.cells #[.string nm] 9)) (show (wr.alloc (.cells #[.string nm, .int .i64 z1, .int .i64 z2, .int .i64 z3] 80)).cell? ⟨wr.heap.size, 3, none⟩ = some (.int .i64 z3) by rw [World.cell?_alloc_new]; rfl)) (own_ne (unhide HO) (Nat.le_refl _)); have HGR := hide hgrow; have HOWN := hide hown'; clear hgrow hown' q0 q1 q2 q3 q4 q5 k0 k1 k2 k3)
                | fail)
              refine (unhide HLT _ z1).mono ?_
              rintro e W3 ⟨rfl, hb3⟩
              rw [unhide HP1]
              have HB3 := hide (btr (unhide HBB) hb3)
              obtain ⟨t0, t1, t2, t3, t4, t5⟩ := unhide HC1 W3 (btr (unhide HBV) (unhide HB3))
              have n1 := cell_later hb3 m1
              have n2 := cell_later hb3 m2
              have n3 := cell_later hb3 m3
              have HR1 : Hid (OS V.heap.size W3 v' ((ls.take (k + 1)).map (fun l : Latch => l.name))) := hide (by rw [unhide HST]; exact OS.later (OS.step (unhide HOWN) (unhide HO).2 (unhide HN)) hb3)
              clear hb3 r0 r1 r2 r3 r4 r5 m1 m2 m3
              go_wp2_with fail
              exact bodyPost_ret (v := .bool false) (by simp [results, Try.results17, go_sem]) rfl ⟨by rw [unhide HFF], btr (unhide HW) (btr (unhide HBV) (unhide HB3))⟩
            · have a2 : decide (1 < z2) = false := decide_eq_false g2
              have a2' : z2 ≤ 1 := by omega
              by_cases g3 : z3 < 0
              · have HFF : Hid (RR = false) := hide (unhide HF (by rw [unhide HDF]; rw [decide_eq_false (p := 0 ≤ z3) (by omega)]; simp))
                go_wp2_with (first
                  | (at_builtin; refine wpList_append_own _ rfl _ _ 22 rfl V.heap.size 9 i0 (.string ByteArray.empty) 1 16 Try.underlying22 (unhide HI).1 (unhide HI).2.1 (unhide HI).2.2.1 (unhide HI).2.2.2 rfl (by decide) _ _ _ rfl (((unhide HO).1.alloc _).alloc _) ⟨wr.heap.size + 1, 0, none⟩ 1 1 [.string nm] rfl rfl (newS _ _ _ (by simp)) (oneS _) (by have := unhide HLEN; unfold maxLen; omega) (by have := unhide HLEN; omega) (by have := unhide HSZ; simp; omega) ?_; intro v' w2 hown' hgrow _; have HBB := hide (below_grown (bal (bal (unhide HB) (.cells #[.string nm, .int .i64 z1, .int .i64 z2, .int .i64 z3] 80)) (.cells #[.string nm] 9)) hgrow (by have := unhide HSZ; simp; omega) (own_row (unhide HO).1)); obtain ⟨r0, r1, r2, r3, r4, r5⟩ := unhide HC1 w2 (btr (unhide HBV) (unhide HBB)); have m1 := hgrow.cell (cell_later (bal (brf (wr.alloc (.cells #[.string nm, .int .i64 z1, .int .i64 z2, .int .i64 z3] 80))) (.cells #[.string nm] 9)) (show (wr.alloc (.cells #[.string nm, .int .i64 z1, .int .i64 z2, .int .i64 z3] 80)).cell? ⟨wr.heap.size, 1, none⟩ = some (.int .i64 z1) by rw [World.cell?_alloc_new]; rfl)) (own_ne (unhide HO) (Nat.le_refl _)); have m2 := hgrow.cell (cell_later (bal (brf (wr.alloc (.cells #[.string nm, .int .i64 z1, .int .i64 z2, .int .i64 z3] 80))) (.cells #[.string nm] 9)) (show (wr.alloc (.cells #[.string nm, .int .i64 z1, .int .i64 z2, .int .i64 z3] 80)).cell? ⟨wr.heap.size, 2, none⟩ = some (.int .i64 z2) by rw [World.cell?_alloc_new]; rfl)) (own_ne (unhide HO) (Nat.le_refl _)); have m3 := hgrow.cell (cell_later (bal (brf (wr.alloc (.cells #[.string nm, .int .i64 z1, .int .i64 z2, .int .i64 z3] 80))) (.cells #[.string nm] 9)) (show (wr.alloc (.cells #[.string nm, .int .i64 z1, .int .i64 z2, .int .i64 z3] 80)).cell? ⟨wr.heap.size, 3, none⟩ = some (.int .i64 z3) by rw [World.cell?_alloc_new]; rfl)) (own_ne (unhide HO) (Nat.le_refl _)); have HGR := hide hgrow; have HOWN := hide hown'; clear hgrow hown' q0 q1 q2 q3 q4 q5 k0 k1 k2 k3)
                  | fail)
                refine (unhide HLT _ z1).mono ?_
                rintro e W3 ⟨rfl, hb3⟩
                rw [unhide HP1]
                have HB3 := hide (btr (unhide HBB) hb3)
                obtain ⟨t0, t1, t2, t3, t4, t5⟩ := unhide HC1 W3 (btr (unhide HBV) (unhide HB3))
                have n1 := cell_later hb3 m1
                have n2 := cell_later hb3 m2
                have n3 := cell_later hb3 m3
                have HR1 : Hid (OS V.heap.size W3 v' ((ls.take (k + 1)).map (fun l : Latch => l.name))) := hide (by rw [unhide HST]; exact OS.later (OS.step (unhide HOWN) (unhide HO).2 (unhide HN)) hb3)
                clear hb3 r0 r1 r2 r3 r4 r5 m1 m2 m3
                go_wp2_with fail
                exact bodyPost_ret (v := .bool false) (by simp [results, Try.results17, go_sem]) rfl ⟨by rw [unhide HFF], btr (unhide HW) (btr (unhide HBV) (unhide HB3))⟩
              · have a3 : decide (z3 < 0) = false := decide_eq_false g3
                have a3' : 0 ≤ z3 := by omega
                by_cases g4 : (l1 : Int) ≤ z3
                · have HFF : Hid (RR = false) := hide (unhide HF (by rw [unhide HDF]; rw [decide_eq_false (p := z3 < (l1 : Int)) (by omega)]; simp))
                  go_wp2_with (first
                    | (at_builtin; refine wpList_append_own _ rfl _ _ 22 rfl V.heap.size 9 i0 (.string ByteArray.empty) 1 16 Try.underlying22 (unhide HI).1 (unhide HI).2.1 (unhide HI).2.2.1 (unhide HI).2.2.2 rfl (by decide) _ _ _ rfl (((unhide HO).1.alloc _).alloc _) ⟨wr.heap.size + 1, 0, none⟩ 1 1 [.string nm] rfl rfl (newS _ _ _ (by simp)) (oneS _) (by have := unhide HLEN; unfold maxLen; omega) (by have := unhide HLEN; omega) (by have := unhide HSZ; simp; omega) ?_; intro v' w2 hown' hgrow _; have HBB := hide (below_grown (bal (bal (unhide HB) (.cells #[.string nm, .int .i64 z1, .int .i64 z2, .int .i64 z3] 80)) (.cells #[.string nm] 9)) hgrow (by have := unhide HSZ; simp; omega) (own_row (unhide HO).1)); obtain ⟨r0, r1, r2, r3, r4, r5⟩ := unhide HC1 w2 (btr (unhide HBV) (unhide HBB)); have m1 := hgrow.cell (cell_later (bal (brf (wr.alloc (.cells #[.string nm, .int .i64 z1, .int .i64 z2, .int .i64 z3] 80))) (.cells #[.string nm] 9)) (show (wr.alloc (.cells #[.string nm, .int .i64 z1, .int .i64 z2, .int .i64 z3] 80)).cell? ⟨wr.heap.size, 1, none⟩ = some (.int .i64 z1) by rw [World.cell?_alloc_new]; rfl)) (own_ne (unhide HO) (Nat.le_refl _)); have m2 := hgrow.cell (cell_later (bal (brf (wr.alloc (.cells #[.string nm, .int .i64 z1, .int .i64 z2, .int .i64 z3] 80))) (.cells #[.string nm] 9)) (show (wr.alloc (.cells #[.string nm, .int .i64 z1, .int .i64 z2, .int .i64 z3] 80)).cell? ⟨wr.heap.size, 2, none⟩ = some (.int .i64 z2) by rw [World.cell?_alloc_new]; rfl)) (own_ne (unhide HO) (Nat.le_refl _)); have m3 := hgrow.cell (cell_later (bal (brf (wr.alloc (.cells #[.string nm, .int .i64 z1, .int .i64 z2, .int .i64 z3] 80))) (.cells #[.string nm] 9)) (show (wr.alloc (.cells #[.string nm, .int .i64 z1, .int .i64 z2, .int .i64 z3] 80)).cell? ⟨wr.heap.size, 3, none⟩ = some (.int .i64 z3) by rw [World.cell?_alloc_new]; rfl)) (own_ne (unhide HO) (Nat.le_refl _)); have HGR := hide hgrow; have HOWN := hide hown'; clear hgrow hown' q0 q1 q2 q3 q4 q5 k0 k1 k2 k3)
                    | fail)
                  refine (unhide HLT _ z1).mono ?_
                  rintro e W3 ⟨rfl, hb3⟩
                  rw [unhide HP1]
                  have HB3 := hide (btr (unhide HBB) hb3)
                  obtain ⟨t0, t1, t2, t3, t4, t5⟩ := unhide HC1 W3 (btr (unhide HBV) (unhide HB3))
                  have n1 := cell_later hb3 m1
                  have n2 := cell_later hb3 m2
                  have n3 := cell_later hb3 m3
                  have HR1 : Hid (OS V.heap.size W3 v' ((ls.take (k + 1)).map (fun l : Latch => l.name))) := hide (by rw [unhide HST]; exact OS.later (OS.step (unhide HOWN) (unhide HO).2 (unhide HN)) hb3)
                  clear hb3 r0 r1 r2 r3 r4 r5 m1 m2 m3
                  go_wp2_with fail
                  exact bodyPost_ret (v := .bool false) (by simp [results, Try.results17, go_sem]) rfl ⟨by rw [unhide HFF], btr (unhide HW) (btr (unhide HBV) (unhide HB3))⟩
                · have a4 : decide ((l1 : Int) ≤ z3) = false := decide_eq_false g4
                  have a4' : z3 < (l1 : Int) := by omega
                  have HLL : Hid (LL = true) := hide (by rw [unhide HDF, decide_eq_true (p := 0 ≤ z2) (by omega), decide_eq_true (p := z2 < 2) (by omega), decide_eq_true (p := 0 ≤ z3) (by omega), decide_eq_true (p := z3 < (l1 : Int)) (by omega)]; rfl)
                  go_wp2_with (first
                    | (at_builtin; refine wpList_append_own _ rfl _ _ 22 rfl V.heap.size 9 i0 (.string ByteArray.empty) 1 16 Try.underlying22 (unhide HI).1 (unhide HI).2.1 (unhide HI).2.2.1 (unhide HI).2.2.2 rfl (by decide) _ _ _ rfl (((unhide HO).1.alloc _).alloc _) ⟨wr.heap.size + 1, 0, none⟩ 1 1 [.string nm] rfl rfl (newS _ _ _ (by simp)) (oneS _) (by have := unhide HLEN; unfold maxLen; omega) (by have := unhide HLEN; omega) (by have := unhide HSZ; simp; omega) ?_; intro v' w2 hown' hgrow _; have HBB := hide (below_grown (bal (bal (unhide HB) (.cells #[.string nm, .int .i64 z1, .int .i64 z2, .int .i64 z3] 80)) (.cells #[.string nm] 9)) hgrow (by have := unhide HSZ; simp; omega) (own_row (unhide HO).1)); obtain ⟨r0, r1, r2, r3, r4, r5⟩ := unhide HC1 w2 (btr (unhide HBV) (unhide HBB)); have m1 := hgrow.cell (cell_later (bal (brf (wr.alloc (.cells #[.string nm, .int .i64 z1, .int .i64 z2, .int .i64 z3] 80))) (.cells #[.string nm] 9)) (show (wr.alloc (.cells #[.string nm, .int .i64 z1, .int .i64 z2, .int .i64 z3] 80)).cell? ⟨wr.heap.size, 1, none⟩ = some (.int .i64 z1) by rw [World.cell?_alloc_new]; rfl)) (own_ne (unhide HO) (Nat.le_refl _)); have m2 := hgrow.cell (cell_later (bal (brf (wr.alloc (.cells #[.string nm, .int .i64 z1, .int .i64 z2, .int .i64 z3] 80))) (.cells #[.string nm] 9)) (show (wr.alloc (.cells #[.string nm, .int .i64 z1, .int .i64 z2, .int .i64 z3] 80)).cell? ⟨wr.heap.size, 2, none⟩ = some (.int .i64 z2) by rw [World.cell?_alloc_new]; rfl)) (own_ne (unhide HO) (Nat.le_refl _)); have m3 := hgrow.cell (cell_later (bal (brf (wr.alloc (.cells #[.string nm, .int .i64 z1, .int .i64 z2, .int .i64 z3] 80))) (.cells #[.string nm] 9)) (show (wr.alloc (.cells #[.string nm, .int .i64 z1, .int .i64 z2, .int .i64 z3] 80)).cell? ⟨wr.heap.size, 3, none⟩ = some (.int .i64 z3) by rw [World.cell?_alloc_new]; rfl)) (own_ne (unhide HO) (Nat.le_refl _)); have HGR := hide hgrow; have HOWN := hide hown'; clear hgrow hown' q0 q1 q2 q3 q4 q5 k0 k1 k2 k3)
                    | fail)
                  refine (unhide HLT _ z1).mono ?_
                  rintro e W3 ⟨rfl, hb3⟩
                  rw [unhide HP1]
                  have HB3 := hide (btr (unhide HBB) hb3)
                  obtain ⟨t0, t1, t2, t3, t4, t5⟩ := unhide HC1 W3 (btr (unhide HBV) (unhide HB3))
                  have n1 := cell_later hb3 m1
                  have n2 := cell_later hb3 m2
                  have n3 := cell_later hb3 m3
                  have HR1 : Hid (OS V.heap.size W3 v' ((ls.take (k + 1)).map (fun l : Latch => l.name))) := hide (by rw [unhide HST]; exact OS.later (OS.step (unhide HOWN) (unhide HO).2 (unhide HN)) hb3)
                  clear hb3 r0 r1 r2 r3 r4 r5 m1 m2 m3
                  go_wp2_with fail
                  go_roundw
                  case rel => exact ⟨k + 1, by omega, by go_num, unhide HR1, by rw [unhide HSA, unhide HA, unhide HLL]; rfl, unhide HB3⟩
                  case measure => simp [intOf]; omega
      · obtain rfl : k = l2 := by omega
        have HO2 : Hid (OS V.heap.size wr u4 (ls.map (fun l : Latch => l.name))) := hide (by have h := unhide HO; rwa [List.take_of_length_le (by have := unhide HLS; omega)] at h)
        have HA2 : Hid (ls.all (latS VV l1) = true) := hide (by have h := unhide HA; rwa [List.take_of_length_le (by have := unhide HLS; omega)] at h)
        have HD3 : Hid (RR = (andsB FA an && (namesB (g.ins ++ g.clocks) && (namesB (ls.map (fun l : Latch => l.name)) && (pinsB VV g.outs && pinsB VV g.checks))))) := hide (by rw [unhide HD2, unhide HA2]; rfl)
        obtain ⟨X, rfl⟩ : ∃ X : World, X = wr := ⟨wr, rfl⟩
        have HNL := hide (fun (U : World) (hU : Below X.heap.size X U) => sNames (ls.map (fun l : Latch => l.name)) u4 U (by have := unhide HLS; rw [List.length_map]; omega) (((unhide HO2).later hU).any (by have := unhide HLS; rw [List.length_map]; omega)))
        clear hb HLC HA HO HO2 HA2 HD2 HLT
        go_wp2
        clear q0 q1 q2 q3 q4 q5
        go_loopw [8] (fun i wr => ∃ k : Nat, k ≤ l3 ∧ i = .int .i64 k ∧ andsB FA (an.take k) = true ∧ Below X.heap.size X wr) (fun i wr => l3 - (intOf i).toNat)
        case atStart => exact ⟨0, Nat.zero_le _, rfl, rfl, brf X⟩
        case round =>
          obtain ⟨k, hk, rfl, hall, hb⟩ := hrel
          have HA := hide hall
          have HB2 := hide hb
          clear hall
          obtain ⟨q0, q1, q2, q3, q4, q5⟩ := unhide HC1 wr (btr (unhide HBV) (btr (unhide HB) hb))
          by_cases hlt : k < l3
          · have hkl : k < an.length := by have := unhide HAN; omega
            have hx : an[k]? = some an[k] := List.getElem?_eq_getElem hkl
            generalize an[k] = x at hx
            have HST := hide (andsB_take an FA k x hx)
            have HF : Hid ((litB x.a (FA + k) && litB x.b (FA + k)) = false → RR = false) := hide (fun h => by
              rw [unhide HD3, andsB_mono an FA (k + 1) (by rw [unhide HST, h, Bool.and_false])]; rfl)
            obtain ⟨b, o, hs3, hc0, hc1⟩ := unhide HAC k x hx
            have hw := btr (unhide HW) (btr (unhide HBV) (btr (unhide HB) hb))
            have k0 := cell_later hw hc0
            have k1 := cell_later hw hc1
            have i1 : (0 : Int) ≤ (k : Int) := by omega
            have i2 : (k : Int) < (l3 : Int) := by omega
            have HB3 := hide (bal (unhide HB2) (.cells #[.int .i64 x.a, .int .i64 x.b] 54))
            obtain ⟨VK, hVK⟩ : ∃ VK, FA + k = VK := ⟨_, rfl⟩
            have v1 : (FA : Int) + (k : Int) = (VK : Int) := by omega
            have v2 : VK ≤ 20000 := by omega
            rw [hVK] at HF HST
            clear hx hc0 hc1 hb hw hkl hVK HP4 HP5 HNR HNL HD3 HAC
            subst hs3
            generalize x.a = za at *
            generalize x.b = zb at *
            by_cases g1 : za < 0
            · have HFF : Hid (RR = false) := hide (unhide HF (by unfold litB; rw [decide_eq_false (p := 0 ≤ za) (by omega)]; rfl))
              go_wp2
              exact bodyPost_ret (v := .bool false) (by simp [results, Try.results17, go_sem]) rfl ⟨by rw [unhide HFF], btr (unhide HW) (btr (unhide HBV) (btr (unhide HB) (unhide HB3)))⟩
            · have a1 : decide (za < 0) = false := decide_eq_false g1
              have a1' : 0 ≤ za := by omega
              by_cases g2 : zb < 0
              · have HFF : Hid (RR = false) := hide (unhide HF (by unfold litB; rw [decide_eq_false (p := 0 ≤ zb) (by omega)]; simp))
                go_wp2
                exact bodyPost_ret (v := .bool false) (by simp [results, Try.results17, go_sem]) rfl ⟨by rw [unhide HFF], btr (unhide HW) (btr (unhide HBV) (btr (unhide HB) (unhide HB3)))⟩
              · have a2 : decide (zb < 0) = false := decide_eq_false g2
                have a2' : 0 ≤ zb := by omega
                by_cases g3 : 2 * (VK : Int) ≤ za
                · have HFF : Hid (RR = false) := hide (unhide HF (by unfold litB; rw [decide_eq_false (p := za < 2 * (VK : Int)) (by omega)]; simp))
                  go_wp2
                  exact bodyPost_ret (v := .bool false) (by simp [results, Try.results17, go_sem]) rfl ⟨by rw [unhide HFF], btr (unhide HW) (btr (unhide HBV) (btr (unhide HB) (unhide HB3)))⟩
                · have a3 : decide (2 * (VK : Int) ≤ za) = false := decide_eq_false g3
                  have a3' : za < 2 * (VK : Int) := by omega
                  by_cases g4 : 2 * (VK : Int) ≤ zb
                  · have HFF : Hid (RR = false) := hide (unhide HF (by unfold litB; rw [decide_eq_false (p := zb < 2 * (VK : Int)) (by omega)]; simp))
                    go_wp2
                    exact bodyPost_ret (v := .bool false) (by simp [results, Try.results17, go_sem]) rfl ⟨by rw [unhide HFF], btr (unhide HW) (btr (unhide HBV) (btr (unhide HB) (unhide HB3)))⟩
                  · have a4 : decide (2 * (VK : Int) ≤ zb) = false := decide_eq_false g4
                    have a4' : zb < 2 * (VK : Int) := by omega
                    have HLL : Hid ((litB za VK && litB zb VK) = true) := hide (by unfold litB; rw [decide_eq_true a1', decide_eq_true a2', decide_eq_true a3', decide_eq_true a4']; rfl)
                    go_wp2
                    go_roundw
                    case rel => exact ⟨k + 1, by omega, by go_num, by rw [unhide HST, unhide HA, unhide HLL]; rfl, unhide HB3⟩
                    case measure => simp [intOf]; omega
          · obtain rfl : k = l3 := by omega
            have HA2 : Hid (andsB FA an = true) := hide (by have h := unhide HA; rwa [List.take_of_length_le (by have := unhide HAN; omega)] at h)
            have HD4 : Hid (RR = (namesB (g.ins ++ g.clocks) && (namesB (ls.map (fun l : Latch => l.name)) && (pinsB VV g.outs && pinsB VV g.checks)))) := hide (by rw [unhide HD3, unhide HA2]; rfl)
            have HXX := hide (btr (unhide HW) (btr (unhide HBV) (btr (unhide HB) (unhide HB2))))
            clear hb HAC HA HA2 HD3
            generalize namesB (g.ins ++ g.clocks) = p1 at *
            generalize namesB (ls.map (fun l : Latch => l.name)) = p2 at *
            generalize pinsB VV g.outs = p3 at *
            generalize pinsB VV g.checks = p4 at *
            cases p1
            · go_wp2_with fail
              refine (unhide HNR _ (btr (unhide HB) (unhide HB2))).mono ?_
              rintro e Y1 ⟨rfl, hy1⟩
              have HC_1 : Hid (Below wr.heap.size wr Y1) := hide hy1
              obtain ⟨q10, q11, q12, q13, q14, q15⟩ := unhide HC1 Y1 (btr (unhide HBV) (btr (unhide HB) (btr (unhide HB2) (unhide HC_1))))
              clear hy1 q0 q1 q2 q3 q4 q5
              go_wp2_with fail
              exact bodyPost_ret (v := .bool false) (by simp [results, Try.results17, go_sem]) rfl ⟨by rw [unhide HD4]; rfl, btr (unhide HXX) (unhide HC_1)⟩
            · cases p2
              · go_wp2_with fail
                refine (unhide HNR _ (btr (unhide HB) (unhide HB2))).mono ?_
                rintro e Y1 ⟨rfl, hy1⟩
                have HC_1 : Hid (Below wr.heap.size wr Y1) := hide hy1
                obtain ⟨q10, q11, q12, q13, q14, q15⟩ := unhide HC1 Y1 (btr (unhide HBV) (btr (unhide HB) (btr (unhide HB2) (unhide HC_1))))
                clear hy1 q0 q1 q2 q3 q4 q5
                go_wp2_with fail
                refine (unhide HNL _ (btr (unhide HB2) (unhide HC_1))).mono ?_
                rintro e Y2 ⟨rfl, hy2⟩
                have HC_2 : Hid (Below wr.heap.size wr Y2) := hide (btr (unhide HC_1) hy2)
                obtain ⟨q20, q21, q22, q23, q24, q25⟩ := unhide HC1 Y2 (btr (unhide HBV) (btr (unhide HB) (btr (unhide HB2) (unhide HC_2))))
                clear hy2 q10 q11 q12 q13 q14 q15
                go_wp2_with fail
                exact bodyPost_ret (v := .bool false) (by simp [results, Try.results17, go_sem]) rfl ⟨by rw [unhide HD4]; rfl, btr (unhide HXX) (unhide HC_2)⟩
              · cases p3
                · go_wp2_with fail
                  refine (unhide HNR _ (btr (unhide HB) (unhide HB2))).mono ?_
                  rintro e Y1 ⟨rfl, hy1⟩
                  have HC_1 : Hid (Below wr.heap.size wr Y1) := hide hy1
                  obtain ⟨q10, q11, q12, q13, q14, q15⟩ := unhide HC1 Y1 (btr (unhide HBV) (btr (unhide HB) (btr (unhide HB2) (unhide HC_1))))
                  clear hy1 q0 q1 q2 q3 q4 q5
                  go_wp2_with fail
                  refine (unhide HNL _ (btr (unhide HB2) (unhide HC_1))).mono ?_
                  rintro e Y2 ⟨rfl, hy2⟩
                  have HC_2 : Hid (Below wr.heap.size wr Y2) := hide (btr (unhide HC_1) hy2)
                  obtain ⟨q20, q21, q22, q23, q24, q25⟩ := unhide HC1 Y2 (btr (unhide HBV) (btr (unhide HB) (btr (unhide HB2) (unhide HC_2))))
                  clear hy2 q10 q11 q12 q13 q14 q15
                  go_wp2_with fail
                  refine (unhide HP4 _ (btr (unhide HXX) (unhide HC_2))).mono ?_
                  rintro e Y3 ⟨rfl, hy3⟩
                  have HC_3 : Hid (Below wr.heap.size wr Y3) := hide (btr (unhide HC_2) hy3)
                  obtain ⟨q30, q31, q32, q33, q34, q35⟩ := unhide HC1 Y3 (btr (unhide HBV) (btr (unhide HB) (btr (unhide HB2) (unhide HC_3))))
                  clear hy3 q20 q21 q22 q23 q24 q25
                  go_wp2_with fail
                  exact bodyPost_ret (v := .bool false) (by simp [results, Try.results17, go_sem]) rfl ⟨by rw [unhide HD4]; rfl, btr (unhide HXX) (unhide HC_3)⟩
                · cases p4
                  · go_wp2_with fail
                    refine (unhide HNR _ (btr (unhide HB) (unhide HB2))).mono ?_
                    rintro e Y1 ⟨rfl, hy1⟩
                    have HC_1 : Hid (Below wr.heap.size wr Y1) := hide hy1
                    obtain ⟨q10, q11, q12, q13, q14, q15⟩ := unhide HC1 Y1 (btr (unhide HBV) (btr (unhide HB) (btr (unhide HB2) (unhide HC_1))))
                    clear hy1 q0 q1 q2 q3 q4 q5
                    go_wp2_with fail
                    refine (unhide HNL _ (btr (unhide HB2) (unhide HC_1))).mono ?_
                    rintro e Y2 ⟨rfl, hy2⟩
                    have HC_2 : Hid (Below wr.heap.size wr Y2) := hide (btr (unhide HC_1) hy2)
                    obtain ⟨q20, q21, q22, q23, q24, q25⟩ := unhide HC1 Y2 (btr (unhide HBV) (btr (unhide HB) (btr (unhide HB2) (unhide HC_2))))
                    clear hy2 q10 q11 q12 q13 q14 q15
                    go_wp2_with fail
                    refine (unhide HP4 _ (btr (unhide HXX) (unhide HC_2))).mono ?_
                    rintro e Y3 ⟨rfl, hy3⟩
                    have HC_3 : Hid (Below wr.heap.size wr Y3) := hide (btr (unhide HC_2) hy3)
                    obtain ⟨q30, q31, q32, q33, q34, q35⟩ := unhide HC1 Y3 (btr (unhide HBV) (btr (unhide HB) (btr (unhide HB2) (unhide HC_3))))
                    clear hy3 q20 q21 q22 q23 q24 q25
                    go_wp2_with fail
                    refine (unhide HP5 _ (btr (unhide HXX) (unhide HC_3))).mono ?_
                    rintro e Y4 ⟨rfl, hy4⟩
                    have HC_4 : Hid (Below wr.heap.size wr Y4) := hide (btr (unhide HC_3) hy4)
                    obtain ⟨q40, q41, q42, q43, q44, q45⟩ := unhide HC1 Y4 (btr (unhide HBV) (btr (unhide HB) (btr (unhide HB2) (unhide HC_4))))
                    clear hy4 q30 q31 q32 q33 q34 q35
                    go_wp2_with fail
                    exact bodyPost_ret (v := .bool false) (by simp [results, Try.results17, go_sem]) rfl ⟨by rw [unhide HD4]; rfl, btr (unhide HXX) (unhide HC_4)⟩
                  · go_wp2_with fail
                    refine (unhide HNR _ (btr (unhide HB) (unhide HB2))).mono ?_
                    rintro e Y1 ⟨rfl, hy1⟩
                    have HC_1 : Hid (Below wr.heap.size wr Y1) := hide hy1
                    obtain ⟨q10, q11, q12, q13, q14, q15⟩ := unhide HC1 Y1 (btr (unhide HBV) (btr (unhide HB) (btr (unhide HB2) (unhide HC_1))))
                    clear hy1 q0 q1 q2 q3 q4 q5
                    go_wp2_with fail
                    refine (unhide HNL _ (btr (unhide HB2) (unhide HC_1))).mono ?_
                    rintro e Y2 ⟨rfl, hy2⟩
                    have HC_2 : Hid (Below wr.heap.size wr Y2) := hide (btr (unhide HC_1) hy2)
                    obtain ⟨q20, q21, q22, q23, q24, q25⟩ := unhide HC1 Y2 (btr (unhide HBV) (btr (unhide HB) (btr (unhide HB2) (unhide HC_2))))
                    clear hy2 q10 q11 q12 q13 q14 q15
                    go_wp2_with fail
                    refine (unhide HP4 _ (btr (unhide HXX) (unhide HC_2))).mono ?_
                    rintro e Y3 ⟨rfl, hy3⟩
                    have HC_3 : Hid (Below wr.heap.size wr Y3) := hide (btr (unhide HC_2) hy3)
                    obtain ⟨q30, q31, q32, q33, q34, q35⟩ := unhide HC1 Y3 (btr (unhide HBV) (btr (unhide HB) (btr (unhide HB2) (unhide HC_3))))
                    clear hy3 q20 q21 q22 q23 q24 q25
                    go_wp2_with fail
                    refine (unhide HP5 _ (btr (unhide HXX) (unhide HC_3))).mono ?_
                    rintro e Y4 ⟨rfl, hy4⟩
                    have HC_4 : Hid (Below wr.heap.size wr Y4) := hide (btr (unhide HC_3) hy4)
                    obtain ⟨q40, q41, q42, q43, q44, q45⟩ := unhide HC1 Y4 (btr (unhide HBV) (btr (unhide HB) (btr (unhide HB2) (unhide HC_4))))
                    clear hy4 q30 q31 q32 q33 q34 q35
                    go_wp2_with fail
                    exact bodyPost_ret (v := .bool true) (by simp [results, Try.results17, go_sem]) rfl ⟨by rw [unhide HD4]; rfl, btr (unhide HXX) (unhide HC_4)⟩
end Go.Proofs.Ytnoklbnacfmpdac
