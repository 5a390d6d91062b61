/- readsAhead. -/
import Derived.Test.YtdmmbhemmbgcpadPB
namespace Go.Proofs.Ytdmmbhemmbgcpad
open Go Go.RowKit Gs
set_option linter.unusedVariables false
set_option linter.unusedSimpArgs false
set_option maxRecDepth 100000
set_option maxHeartbeats 8000000 in
theorem iAhead (s0 s1 s2 s3 s4 : Option Addr) (l0 l1 l2 l3 l4 c0 c1 c2 c3 c4 : Nat) (bs : List Block) (k : Nat) (b : Block) (hk : bs[k]? = some b) (w : World) (hl0 : l0 ≤ 1048576) (hlb : bs.length ≤ 1048576) (hlen : b.inp.length ≤ 4) (hin : ∀ x ∈ b.inp, 0 ≤ x ∧ x < ((l0 + bs.length : Nat) : Int)) (h2 : RS 6 RBlock w 0 bs (.slice s2 l2 c2)) :
    Calls Try.prog 51 #[.agg #[.slice s0 l0 c0, .slice s1 l1 c1, .slice s2 l2 c2, .slice s3 l3 c3, .slice s4 l4 c4], .int .i64 (k : Int)] w fun e w' => e = .returned (.bool (aheadB l0 bs k b.inp)) ∧ Below w.heap.size w w' := by
  have hkl : k < bs.length := (List.getElem?_eq_some_iff.1 hk).1
  rcases h2.open with ⟨rfl, _⟩ | ⟨b2, o2, c2', hv, hcc, hnm, _, hcs⟩
  · simp at hk
  injection hv with e1 e2 e3
  subst e1 e2 e3
  have HREG : Hid (∀ (i : Nat) x, bs[i]? = some x → w.cell? ⟨b2, o2 + i * 6 + 3, none⟩ = some (.bool x.reg)) := hide (fun i x hx => by
    obtain ⟨u, hul, hat, v1, hus, _, _⟩ := hcs i x hx
    subst hus
    exact hat.get (j := 3) rfl)
  obtain ⟨u, hul, hat, v1, hus, _, hrs⟩ := hcs k b hk
  subst hus
  have k1 := hat.get (j := 1) rfl
  obtain ⟨ai, ci, rfl⟩ := hrs.slice
  have HI : Hid (∀ (j : Nat) x, b.inp[j]? = some x → ∃ bb oo, ai = some ⟨bb, oo, none⟩ ∧ w.cell? ⟨bb, oo + j, none⟩ = some (.int .i64 x) ∧ b.inp.length ≤ ci) := hide (fun j x hx => by
    rcases hrs.open with ⟨e, _⟩ | ⟨bb, oo, cc, hv, hcc, _, _, hci⟩
    · rw [e] at hx; simp at hx
    · injection hv with e1 e2 e3
      obtain ⟨u, hul, hat, hus⟩ := hci j x hx
      subst hus
      refine ⟨bb, oo, e1, ?_, by omega⟩
      simpa using hat.get (j := 0) rfl)
  have HIN := hide hin
  have HR : Hid (aheadB l0 bs k b.inp = b.inp.all (ahB l0 bs k)) := hide rfl
  generalize aheadB l0 bs k b.inp = RR at *
  generalize hxs : b.inp = xs at *
  clear hrs hcs hat hul h2 hcc hxs hk
  obtain ⟨L, hL⟩ : ∃ L, xs.length = L := ⟨_, rfl⟩
  have HL := hide hL
  rw [hL] at k1 hlen
  clear hL
  obtain ⟨N, hN⟩ : ∃ N, bs.length = N := ⟨_, rfl⟩
  have HN := hide hN
  rw [hN] at HIN hkl hlb hnm ⊢
  clear hN hin
  have i1 : (0 : Int) ≤ (k : Int) := by omega
  have i2 : (k : Int) < (N : Int) := by omega
  have HBW := hide (bal (brf w) (.cells #[.slice s0 l0 c0, .slice s1 l1 c1, .slice (some ⟨b2, o2, none⟩) N c2, .slice s3 l3 c3, .slice s4 l4 c4] 35))
  have HU : Hid (∀ b o v, w.cell? ⟨b, o, none⟩ = some v → (w.alloc (.cells #[.slice s0 l0 c0, .slice s1 l1 c1, .slice (some ⟨b2, o2, none⟩) N c2, .slice s3 l3 c3, .slice s4 l4 c4] 35)).cell? ⟨b, o, none⟩ = some v) := hide (fun b o v h => cell_later (bal (brf w) _) h)
  replace k1 := unhide HU _ _ _ k1
  go_enter Try.func51, Try.ntmps51
  go_wp2
  go_loop [15] (fun i => ∃ j : Nat, j ≤ L ∧ i = .int .i64 j ∧ (xs.take j).all (ahB l0 bs k) = true) (fun i => L - (intOf i).toNat)
  case atStart => exact ⟨0, Nat.zero_le _, rfl, rfl⟩
  case round =>
    obtain ⟨j, hj, rfl, hall⟩ := hrel
    have HA := hide hall
    clear hall
    by_cases hlt : j < L
    · have hjl : j < xs.length := by have := unhide HL; omega
      have hx : xs[j]? = some xs[j] := List.getElem?_eq_getElem hjl
      have hm := unhide HIN xs[j] (List.getElem_mem hjl)
      generalize xs[j] = x at hx hm
      have HST := hide (show (xs.take (j + 1)).all (ahB l0 bs k) = ((xs.take j).all (ahB l0 bs k) && ahB l0 bs k x) by rw [List.take_add_one, hx, List.all_append]; simp)
      have HF : Hid (ahB l0 bs k x = false → RR = false) := hide (fun h => by rw [unhide HR, ← Bool.not_eq_true]; intro e; rw [List.all_eq_true.1 e x (List.mem_of_getElem? hx)] at h; cases h)
      obtain ⟨bb, oo, rfl, k0, hcx⟩ := unhide HI j x hx
      replace k0 := unhide HU _ _ _ k0
      have j1 : (0 : Int) ≤ (j : Int) := by omega
      have j2 : (j : Int) < (L : Int) := by omega
      by_cases hrd : (k : Int) ≤ x - (l0 : Int)
      · obtain ⟨r, hr⟩ : ∃ r : Nat, x - (l0 : Int) = (r : Int) := ⟨(x - (l0 : Int)).toNat, by omega⟩
        have hrN : r < bs.length := by have := unhide HN; omega
        have hbr : bs[r]? = some bs[r] := List.getElem?_eq_getElem hrN
        have HAB : Hid (ahB l0 bs k x = bs[r].reg) := hide (by
          unfold ahB
          rw [hr, decide_eq_true (by omega), Int.toNat_natCast, show bs.getD r blk0 = bs[r] by rw [List.getD_eq_getElem?_getD, hbr]; rfl]
          rfl)
        have k3 := unhide HU _ _ _ (unhide HREG r _ hbr)
        generalize bs[r] = br at hbr HAB k3
        have r1 : (0 : Int) ≤ (r : Int) := by omega
        have r2 : (r : Int) < (N : Int) := by have := unhide HN; omega
        have r3 : (k : Int) ≤ (r : Int) := by omega
        clear hx hm hjl hcx hrN hbr hrd HI HREG HIN
        generalize ahB l0 bs k x = p at *
        generalize br.reg = q at *
        cases q
        · go_wp2
          exact bodyPost_ret (v := .bool false) (by simp [results, Try.results51, go_sem]) rfl ⟨by rw [unhide HF (by rw [unhide HAB])], unhide HBW⟩
        · go_wp2
          go_round
          case rel => exact ⟨j + 1, by omega, by go_num, by rw [unhide HST, unhide HA, unhide HAB]; rfl⟩
          case measure => simp [intOf]; omega
      · have HAB : Hid (ahB l0 bs k x = true) := hide (by
          unfold ahB
          rw [decide_eq_false hrd]
          rfl)
        have hrd' : decide ((k : Int) ≤ x - (l0 : Int)) = false := decide_eq_false hrd
        clear hx hjl hcx HI HREG HIN
        generalize ahB l0 bs k x = p at *
        go_wp2
        go_round
        case rel => exact ⟨j + 1, by omega, by go_num, by rw [unhide HST, unhide HA, unhide HAB]; rfl⟩
        case measure => simp [intOf]; omega
    · obtain rfl : j = L := by omega
      clear HI HREG HIN
      go_wp2
      refine bodyPost_ret (v := .bool true) (by simp [results, Try.results51, go_sem]) rfl ⟨ret_bool ?_, unhide HBW⟩
      have h := unhide HA
      rw [List.take_of_length_le (by have := unhide HL; omega)] at h
      rw [unhide HR, h]
end Go.Proofs.Ytdmmbhemmbgcpad
