/- listOf: what is told of each of some things, in a slice of one's own. -/
import Derived.Test.YtdmmbhemmbgcpadLO
import Derived.Test.YtdmmbhemmbgcpadN2
namespace Go.Proofs.Ytdmmbhemmbgcpad
open Go.RowKit Gs
set_option linter.unusedVariables false
set_option maxRecDepth 100000
set_option maxHeartbeats 1600000 in
theorem iToldPortS (nm : ByteArray) (z1 : Int) (w : World) : Calls Try.prog 53 #[.agg #[.string nm, .int .i64 z1]] w fun e w' => e = .returned (.string nm) ∧ Below w.heap.size w w' := by
  go_enter Try.func53, Try.ntmps53
  go_wp2
  exact bodyPost_ret (v := .string nm) (by simp [results, Try.results53, go_sem]) rfl ⟨rfl, bal (brf w) _⟩
set_option maxHeartbeats 1600000 in
theorem iListPortS (xs : List Port) (v : Value) (w : World) (hl : xs.length ≤ 1048576) (hr : RS 2 RPort w 0 xs v) :
    Calls Try.prog 59 #[v, .func (.func 53) #[] #[]] w fun e w' => (∃ v', e = .returned v' ∧ OS w.heap.size w' v' (xs.map (·.name))) ∧ Below w.heap.size w w' := by
  rcases hr.open with ⟨rfl, a, c, rfl⟩ | ⟨b, o, c, rfl, hc, hn, _, hcs⟩
  · clear hr
    go_enter Try.func59, Try.ntmps59
    go_wp2
    refine wp_loop_rounds 1 ?_
    rw [rounds_succ]
    go_wp2
    exact bodyPost_ret (v := .slice none 0 0) (by simp [results, Try.results59, go_sem]) rfl ⟨⟨_, rfl, OS_nil _ _⟩, brf _⟩
  · unfold maxLen at hn
    have HC := hide hcs
    clear hcs hr
    obtain ⟨i0, hi, hz0, hz1, hz2⟩ := info_parts info9
    go_enter Try.func59, Try.ntmps59
    go_wp2
    go_loopw [5, 10] (fun v i wr => ∃ k : Nat, k ≤ xs.length ∧ i = .int .i64 k ∧ OS w.heap.size wr v ((xs.take k).map (·.name)) ∧ Below w.heap.size w wr) (fun _ i _ => xs.length - (intOf i).toNat)
    case atStart => exact ⟨0, Nat.zero_le _, rfl, OS_nil _ _, brf _⟩
    case round =>
      obtain ⟨k, hk, rfl, hown, hb⟩ := hrel
      by_cases hlt : k < xs.length
      · have hx : xs[k]? = some xs[k] := List.getElem?_eq_getElem hlt
        have hst : (xs.take (k + 1)).map (fun x : Port => x.name) = (xs.take k).map (fun x : Port => x.name) ++ [xs[k].name] := by
          rw [List.take_add_one, hx, List.map_append]; rfl
        have hlen : ((xs.take k).map (fun x : Port => x.name)).length = k := by rw [List.length_map, List.length_take]; omega
        generalize xs[k] = x at hx hst
        obtain ⟨u, hul, hat, hrx⟩ := unhide HC k x hx
        unfold RPort at hrx
        obtain ⟨rfl, hbn⟩ := hrx
        have k0 := cell_later hb (hat.get (j := 0) rfl)
        have k1 := cell_later hb (hat.get (j := 1) rfl)
        simp only [Nat.add_zero] at k0
        have hsz := hb.size
        have HB := hide hb
        have HST := hide hst
        have HO := hide hown
        have HLEN := hide hlen
        have HSZ := hide hsz
        have HN := hide hbn
        clear hb hat hul HC hst hown hlen hsz hbn
        generalize hnm : x.name = nm at *
        generalize hq1 : x.src = z1 at *
        go_wp2_with (first
          | (go_at_call 53; refine (iToldPortS nm z1 _).mono ?_; rintro e W1 ⟨rfl, hb1⟩; have HO1 := hide ((unhide HO).later (btr (bal (brf wr) _) hb1)); have HB1 := hide (btr (bal (unhide HB) _) hb1); clear hb1)
          | (at_builtin; refine wpList_append_own _ rfl _ _ 22 rfl w.heap.size 9 i0 (.string ByteArray.empty) 1 16 Try.underlying22 hi hz0 hz1 hz2 rfl (by decide) _ _ _ rfl ((unhide HO1).1.alloc _) ⟨W1.heap.size, 0, none⟩ 1 1 [.string nm] rfl rfl (newS _ _ _ rfl) (oneS _) (by have := unhide HLEN; unfold maxLen; omega) (by have := unhide HLEN; omega) (by have := (unhide HB1).size; simp; omega) ?_; intro v' w2 hown' hgrow _)
          | go_in)
        have R1 : OS w.heap.size w2 v' ((xs.take (k + 1)).map (fun x : Port => x.name)) := by
          rw [unhide HST]; exact OS.step hown' (unhide HO1).2 (unhide HN)
        have R2 := below_grown (bal (unhide HB1) (.cells #[.string nm] 9)) hgrow (by have := (unhide HB1).size; simp; omega) (own_row (unhide HO1).1)
        go_roundw
        case rel => exact ⟨k + 1, by omega, by go_num, R1, R2⟩
        case measure => simp [intOf]; omega
      · obtain rfl : k = xs.length := by omega
        rw [List.take_of_length_le (Nat.le_refl _)] at hown
        have HO := hide hown
        have HB := hide hb
        clear hown hb HC
        go_wp2
        exact bodyPost_ret (v := u5) (by simp [results, Try.results59, go_sem]) rfl ⟨⟨_, rfl, unhide HO⟩, unhide HB⟩
end Go.Proofs.Ytdmmbhemmbgcpad
