/- latchesFit. -/
import Derived.Test.YthbcokioijpofacAC1
namespace Go.Proofs.Ythbcokioijpofac
open Go Go.RowKit Gs
set_option linter.unusedVariables false
set_option linter.unusedSimpArgs false
set_option maxRecDepth 100000
def latchB (n1 : Nat) (l : MapReg) : Bool := (decide (0 ≤ l.init) && decide (l.init < 2)) && (decide (0 ≤ l.clock) && decide (l.clock < (n1 : Int)))
set_option maxHeartbeats 16000000 in
theorem iMapReges (s0 s1 s2 s3 s4 s5 : Option Addr) (l0 l1 l2 l3 l4 l5 c0 c1 c2 c3 c4 c5 : Nat) (xs : List MapReg) (w : World) (hl1 : l1 ≤ 1048576) (hl2 : xs.length ≤ 1048576) (h2 : RS 4 RMapReg w 0 xs (.slice s2 l2 c2)) :
    Calls Try.prog 35 #[.agg #[.slice s0 l0 c0, .slice s1 l1 c1, .slice s2 l2 c2, .slice s3 l3 c3, .slice s4 l4 c4, .slice s5 l5 c5]] w fun e w' => e = .returned (.bool (xs.all (latchB l1))) ∧ Below w.heap.size w w' := by
  have HC1 : Hid (∀ V, Below (w.alloc (.cells #[.slice s0 l0 c0, .slice s1 l1 c1, .slice s2 l2 c2, .slice s3 l3 c3, .slice s4 l4 c4, .slice s5 l5 c5] 34)).heap.size (w.alloc (.cells #[.slice s0 l0 c0, .slice s1 l1 c1, .slice s2 l2 c2, .slice s3 l3 c3, .slice s4 l4 c4, .slice s5 l5 c5] 34)) V → V.cell? ⟨w.heap.size, 1, none⟩ = some (.slice s1 l1 c1)) := hide (fun V hb => cell_later hb (by rw [World.cell?_alloc_new]; rfl))
  obtain ⟨W, hW⟩ : ∃ W, W = w.alloc (.cells #[.slice s0 l0 c0, .slice s1 l1 c1, .slice s2 l2 c2, .slice s3 l3 c3, .slice s4 l4 c4, .slice s5 l5 c5] 34) := ⟨_, rfl⟩
  have HW : Hid (Below w.heap.size w W) := hide (by rw [hW]; exact bal (brf w) _)
  rw [← hW] at HC1
  obtain ⟨hlen, hcs⟩ : l2 = xs.length ∧ (xs ≠ [] → ∃ b o, s2 = some ⟨b, o, none⟩ ∧ ∀ i x, xs[i]? = some x → ∃ u, u.length = 4 ∧ At w b (o + i * 4) u ∧ RMapReg w 0 x u) := by
    obtain ⟨a, c, hv, _, _, h⟩ := h2
    injection hv with e1 e2 e3
    refine ⟨e2, fun hne => ?_⟩
    obtain ⟨b, o, ha, _, hh⟩ := h hne
    exact ⟨b, o, by rw [e1, ha], hh⟩
  subst hlen
  clear h2
  by_cases hne : xs = []
  · subst hne
    have HWb : Hid (Below w.heap.size w (w.alloc (.cells #[.slice s0 l0 c0, .slice s1 l1 c1, .slice s2 0 c2, .slice s3 l3 c3, .slice s4 l4 c4, .slice s5 l5 c5] 34))) := hide (bal (brf w) _)
    clear HC1 HW hW hcs
    go_enter Try.func35, Try.ntmps35
    go_wp2
    refine wp_loop_rounds 1 ?_
    rw [rounds_succ]
    go_wp2
    exact bodyPost_ret (v := .bool true) (by simp [results, Try.results35, go_sem]) rfl ⟨rfl, unhide HWb⟩
  · obtain ⟨b, o, rfl, hcx⟩ := hcs hne
    have HC := hide hcx
    clear hcs hcx hne
    go_enter Try.func35, Try.ntmps35
    go_wp2
    rw [← hW]
    go_loopw [8] (fun i wr => ∃ k : Nat, k ≤ xs.length ∧ i = .int .i64 k ∧ (xs.take k).all (latchB l1) = true ∧ Below W.heap.size W wr) (fun i wr => xs.length - (intOf i).toNat)
    case atStart => exact ⟨0, Nat.zero_le _, rfl, rfl, brf _⟩
    case round =>
      obtain ⟨k, hk, rfl, hall, hb⟩ := hrel
      have HA := hide hall
      clear hall hW
      by_cases hlt : k < xs.length
      · have hx : xs[k]? = some xs[k] := List.getElem?_eq_getElem hlt
        have hmem : xs[k] ∈ xs := List.getElem_mem hlt
        generalize xs[k] = x at hx hmem
        have HST := hide (show (xs.take (k + 1)).all (latchB l1) = ((xs.take k).all (latchB l1) && latchB l1 x) by rw [List.take_add_one, hx, List.all_append]; simp)
        have HF : Hid (latchB l1 x = false → xs.all (latchB l1) = false) := hide (fun h => by rw [← Bool.not_eq_true]; intro e; rw [List.all_eq_true.1 e x hmem] at h; cases h)
        obtain ⟨u, hul, hat, hus, hsz⟩ := unhide HC k x hx
        subst hus
        have k0 := cell_later (btr (unhide HW) hb) (hat.get (j := 0) rfl)
        have k1 := cell_later (btr (unhide HW) hb) (hat.get (j := 1) rfl)
        have k2 := cell_later (btr (unhide HW) hb) (hat.get (j := 2) rfl)
        have k3 := cell_later (btr (unhide HW) hb) (hat.get (j := 3) rfl)
        simp only [Nat.add_zero] at k0
        have m1 := cell_later (bal (brf wr) (.cells #[.string x.name, .int .i64 x.src, .int .i64 x.init, .int .i64 x.clock] 63)) (unhide HC1 wr hb)
        have HB := hide (bal (btr (unhide HW) hb) (.cells #[.string x.name, .int .i64 x.src, .int .i64 x.init, .int .i64 x.clock] 63))
        have HB2 := hide (bal hb (.cells #[.string x.name, .int .i64 x.src, .int .i64 x.init, .int .i64 x.clock] 63))
        clear hat hul HC hx hmem hb hsz
        have hdef : latchB l1 x = ((decide (0 ≤ x.init) && decide (x.init < 2)) && (decide (0 ≤ x.clock) && decide (x.clock < (l1 : Int)))) := rfl
        generalize latchB l1 x = B at *
        generalize x.name = nm at *
        generalize x.src = z1 at *
        generalize x.init = z2 at *
        generalize x.clock = z3 at *
        generalize hp1 : (decide (0 ≤ z2) && decide (z2 < 2)) = p1 at *
        generalize hp2 : (decide (0 ≤ z3) && decide (z3 < (l1 : Int))) = p2 at *
        have HD := hide hdef
        have HP1 := hide hp1
        have HP2 := hide hp2
        clear hdef hp1 hp2
        cases p1
        · go_wp2_with fail
          refine (iPlace z2 2 _).mono ?_
          rintro e W1 ⟨rfl, h⟩
          subst h
          rw [unhide HP1]
          go_wp2_with fail
          exact bodyPost_ret (v := .bool false) (by simp [results, Try.results35, go_sem]) rfl ⟨by rw [unhide HF (unhide HD)], unhide HB⟩
        · cases p2
          · go_wp2_with fail
            refine (iPlace z2 2 _).mono ?_
            rintro e W1 ⟨rfl, h⟩
            subst h
            rw [unhide HP1]
            go_wp2_with fail
            refine (iPlace z3 l1 _).mono ?_
            rintro e W2 ⟨rfl, h⟩
            subst h
            rw [unhide HP2]
            go_wp2_with fail
            exact bodyPost_ret (v := .bool false) (by simp [results, Try.results35, go_sem]) rfl ⟨by rw [unhide HF (unhide HD)], unhide HB⟩
          · go_wp2_with fail
            refine (iPlace z2 2 _).mono ?_
            rintro e W1 ⟨rfl, h⟩
            subst h
            rw [unhide HP1]
            go_wp2_with fail
            refine (iPlace z3 l1 _).mono ?_
            rintro e W2 ⟨rfl, h⟩
            subst h
            rw [unhide HP2]
            go_wp2_with fail
            go_roundw
            case rel => exact ⟨k + 1, by omega, by go_num, by rw [unhide HST, unhide HA, unhide HD]; rfl, unhide HB2⟩
            case measure => simp [intOf]; omega
      · obtain rfl : k = xs.length := by omega
        have HB := hide (btr (unhide HW) hb)
        clear HC hb
        go_wp2
        refine bodyPost_ret (v := .bool true) (by simp [results, Try.results35, go_sem]) rfl ⟨ret_bool ?_, unhide HB⟩
        have h := unhide HA
        rw [List.take_of_length_le (Nat.le_refl _)] at h
        exact h.symm
end Go.Proofs.Ythbcokioijpofac
