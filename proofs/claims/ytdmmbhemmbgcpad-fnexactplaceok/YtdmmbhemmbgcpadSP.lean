/- The specification's l12Ports. -/
import Derived.Test.YtdmmbhemmbgcpadSS2
import Derived.Test.YtdmmbhemmbgcpadMX
namespace Go.Proofs.Ytdmmbhemmbgcpad
open Go Go.RowKit Gs
set_option linter.unusedVariables false
set_option linter.unusedSimpArgs false
set_option maxRecDepth 100000
/-- What l12Ports answers. -/
def portsB (VV : Nat) (ps : List Port) : Bool := ps.all (fun p : Port => plB p.src VV) && namesB (ps.map (fun p : Port => p.name))
set_option maxHeartbeats 16000000 in
theorem sPorts (VV : Nat) (ps : List Port) (v : Value) (w : World) (hl : ps.length ≤ 1048576) (hr : RS 2 RPort w 0 ps v) :
    Calls Try.prog 34 #[v, .int .i64 (VV : Int)] w fun e w' => e = .returned (.bool (portsB VV ps)) ∧ Below w.heap.size w w' := by
  obtain ⟨ap, cp, rfl⟩ := hr.slice
  have HCS : Hid (∀ (i : Nat) x, ps[i]? = some x → ∃ b o, ap = some ⟨b, o, none⟩ ∧ w.cell? ⟨b, o + i * 2, none⟩ = some (.string x.name) ∧ w.cell? ⟨b, o + i * 2 + 1, none⟩ = some (.int .i64 x.src) ∧ x.name.size ≤ maxLen) := hide (by
    intro i x hx
    rcases hr.open with ⟨rfl, _⟩ | ⟨b, o, c', hv, _, _, _, he⟩
    · simp at hx
    · injection hv with e1 e2 e3
      obtain ⟨u, hu, hat, hux, hs⟩ := he i x hx
      subst hux
      refine ⟨b, o, e1, ?_, ?_, hs⟩
      · simpa using hat.get (j := 0) rfl
      · simpa using hat.get (j := 1) rfl)
  clear hr
  obtain ⟨i0, hi, hz0, hz1, hz2⟩ := info_parts info9
  have HI := hide (And.intro hi (And.intro hz0 (And.intro hz1 hz2)))
  clear hi hz0 hz1 hz2
  go_enter Try.func34, Try.ntmps34
  go_wp2
  go_loopw [5, 6] (fun vn i wr => ∃ k : Nat, k ≤ ps.length ∧ i = .int .i64 k ∧ OS w.heap.size wr vn ((ps.take k).map (fun p : Port => p.name)) ∧ (ps.take k).all (fun p : Port => plB p.src VV) = true ∧ Below w.heap.size w wr) (fun vn i wr => ps.length - (intOf i).toNat)
  case atStart => exact ⟨0, Nat.zero_le _, rfl, OS_start rfl (Nat.le_refl _), rfl, bal (brf w) _⟩
  case round =>
    obtain ⟨k, hk, rfl, ho, hall, hb⟩ := hrel
    have HO := hide ho
    have HA := hide hall
    have HB := hide hb
    clear ho hall
    by_cases hlt : k < ps.length
    · have hx : ps[k]? = some ps[k] := List.getElem?_eq_getElem hlt
      have hmem : ps[k] ∈ ps := List.getElem_mem hlt
      generalize ps[k] = x at hx hmem
      have HST := hide (show (ps.take (k + 1)).map (fun p : Port => p.name) = (ps.take k).map (fun p : Port => p.name) ++ [x.name] by rw [List.take_add_one, hx, List.map_append]; rfl)
      have HLEN := hide (show ((ps.take k).map (fun p : Port => p.name)).length = k by rw [List.length_map, List.length_take]; omega)
      have HSA := hide (show (ps.take (k + 1)).all (fun p : Port => plB p.src VV) = ((ps.take k).all (fun p : Port => plB p.src VV) && plB x.src VV) by rw [List.take_add_one, hx, List.all_append]; simp)
      have HF : Hid (plB x.src VV = false → portsB VV ps = false) := hide (fun h => by
        unfold portsB
        rw [show ps.all (fun p : Port => plB p.src VV) = false from by rw [← Bool.not_eq_true]; intro e; rw [List.all_eq_true.1 e x hmem] at h; cases h]
        rfl)
      obtain ⟨b, o, rfl, hc0, hc1, hsz⟩ := unhide HCS k x hx
      have k0 := cell_later hb hc0
      have HZ := hide (fun (V : World) (hV : Below w.heap.size w V) => cell_later hV hc1)
      have HN := hide hsz
      have HSZ := hide hb.size
      have i1 : (0 : Int) ≤ (k : Int) := by omega
      have i2 : (k : Int) < (ps.length : Int) := by omega
      have HPL : Hid (plB x.src VV = (decide (0 ≤ x.src) && decide (x.src < (VV : Int)))) := hide rfl
      clear HCS hx hmem hc0 hc1 hsz hb
      generalize plB x.src VV = P at *
      generalize x.name = nm at *
      generalize x.src = z at *
      by_cases g1 : z < 0
      · have HFF : Hid (portsB VV ps = false) := hide (unhide HF (by rw [unhide HPL, decide_eq_false (p := 0 ≤ z) (by omega)]; rfl))
        go_wp2_with (first
          | (at_builtin; refine wpList_append_own _ rfl _ _ 22 rfl w.heap.size 9 i0 (.string ByteArray.empty) 1 16 Try.underlying22 (unhide HI).1 (unhide HI).2.1 (unhide HI).2.2.1 (unhide HI).2.2.2 rfl (by decide) _ _ _ rfl ((unhide HO).1.alloc _) ⟨wr.heap.size, 0, none⟩ 1 1 [.string nm] rfl rfl (newS _ _ _ rfl) (oneS _) (by have := unhide HLEN; unfold maxLen; omega) (by have := unhide HLEN; omega) (by have := unhide HSZ; simp; omega) ?_; intro v' w2 hown' hgrow _; have HB2 := hide (below_grown (bal (unhide HB) (.cells #[.string nm] 9)) hgrow (by have := unhide HSZ; simp; omega) (own_row (unhide HO).1)); have z2 := unhide HZ w2 (unhide HB2); clear hgrow hown')
          | fail)
        exact bodyPost_ret (v := .bool false) (by simp [results, Try.results34, go_sem]) rfl ⟨by rw [unhide HFF], unhide HB2⟩
      have a1 : decide (z < 0) = false := decide_eq_false g1
      by_cases g2 : (VV : Int) ≤ z
      · have HFF : Hid (portsB VV ps = false) := hide (unhide HF (by rw [unhide HPL, decide_eq_false (p := z < (VV : Int)) (by omega)]; simp))
        go_wp2_with (first
          | (at_builtin; refine wpList_append_own _ rfl _ _ 22 rfl w.heap.size 9 i0 (.string ByteArray.empty) 1 16 Try.underlying22 (unhide HI).1 (unhide HI).2.1 (unhide HI).2.2.1 (unhide HI).2.2.2 rfl (by decide) _ _ _ rfl ((unhide HO).1.alloc _) ⟨wr.heap.size, 0, none⟩ 1 1 [.string nm] rfl rfl (newS _ _ _ rfl) (oneS _) (by have := unhide HLEN; unfold maxLen; omega) (by have := unhide HLEN; omega) (by have := unhide HSZ; simp; omega) ?_; intro v' w2 hown' hgrow _; have HB2 := hide (below_grown (bal (unhide HB) (.cells #[.string nm] 9)) hgrow (by have := unhide HSZ; simp; omega) (own_row (unhide HO).1)); have z2 := unhide HZ w2 (unhide HB2); clear hgrow hown')
          | fail)
        exact bodyPost_ret (v := .bool false) (by simp [results, Try.results34, go_sem]) rfl ⟨by rw [unhide HFF], unhide HB2⟩
      have a2 : decide ((VV : Int) ≤ z) = false := decide_eq_false g2
      have HP : Hid (P = true) := hide (by rw [unhide HPL, decide_eq_true (p := 0 ≤ z) (by omega), decide_eq_true (p := z < (VV : Int)) (by omega)]; rfl)
      go_wp2_with (first
        | (at_builtin; refine wpList_append_own _ rfl _ _ 22 rfl w.heap.size 9 i0 (.string ByteArray.empty) 1 16 Try.underlying22 (unhide HI).1 (unhide HI).2.1 (unhide HI).2.2.1 (unhide HI).2.2.2 rfl (by decide) _ _ _ rfl ((unhide HO).1.alloc _) ⟨wr.heap.size, 0, none⟩ 1 1 [.string nm] rfl rfl (newS _ _ _ rfl) (oneS _) (by have := unhide HLEN; unfold maxLen; omega) (by have := unhide HLEN; omega) (by have := unhide HSZ; simp; omega) ?_; intro v' w2 hown' hgrow _; have HB2 := hide (below_grown (bal (unhide HB) (.cells #[.string nm] 9)) hgrow (by have := unhide HSZ; simp; omega) (own_row (unhide HO).1)); have z2 := unhide HZ w2 (unhide HB2); have HR1 : Hid (OS w.heap.size w2 v' ((ps.take (k + 1)).map (fun p : Port => p.name))) := hide (by rw [unhide HST]; exact OS.step hown' (unhide HO).2 (unhide HN)); clear hgrow hown')
        | fail)
      go_roundw
      case rel => exact ⟨k + 1, by omega, by go_num, unhide HR1, by rw [unhide HSA, unhide HA, unhide HP]; rfl, unhide HB2⟩
      case measure => simp [intOf]; omega
    · obtain rfl : k = ps.length := by omega
      have HR : Hid (portsB VV ps = namesB (ps.map (fun p : Port => p.name))) := hide (by
        have h := unhide HA
        rw [List.take_of_length_le (Nat.le_refl _)] at h
        unfold portsB
        rw [h]; rfl)
      have h := unhide HO
      rw [List.take_of_length_le (Nat.le_refl _)] at h
      have HNM := hide (sNames _ _ wr (by rw [List.length_map]; omega) (h.any (by rw [List.length_map]; omega)))
      clear h hb HCS HA HO
      go_wp2_with fail
      refine (unhide HNM).mono ?_
      rintro e W1 ⟨rfl, hb1⟩
      have HB1 := hide (btr (unhide HB) hb1)
      clear hb1
      go_wp2_with fail
      exact bodyPost_ret (v := .bool (namesB (ps.map (fun p : Port => p.name)))) (by simp [results, Try.results34, go_sem]) rfl ⟨by rw [unhide HR], unhide HB1⟩
end Go.Proofs.Ytdmmbhemmbgcpad
