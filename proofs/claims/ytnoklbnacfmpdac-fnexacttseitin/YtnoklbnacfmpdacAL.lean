/- listOf: what is told of each of some things, in a slice of one's own. -/
import Derived.Test.YtnoklbnacfmpdacLO
import Derived.Test.YtnoklbnacfmpdacN2
namespace Go.Proofs.Ytnoklbnacfmpdac
open Go.RowKit Gs
set_option linter.unusedVariables false
set_option maxRecDepth 100000
set_option maxHeartbeats 1600000 in
theorem iToldPinS (nm : ByteArray) (z1 : Int) (w : World) : Calls Try.prog 64 #[.agg #[.string nm, .int .i64 z1]] w fun e w' => e = .returned (.string nm) ∧ Below w.heap.size w w' := by
  go_enter Try.func64, Try.ntmps64
  go_wp2
  exact bodyPost_ret (v := .string nm) (by simp [results, Try.results64, go_sem]) rfl ⟨rfl, bal (brf w) _⟩
set_option maxHeartbeats 1600000 in
theorem iListPinS (xs : List Pin) (v : Value) (w : World) (hl : xs.length ≤ 1048576) (hr : RS 2 RPin w 0 xs v) :
    Calls Try.prog 68 #[v, .func (.func 64) #[] #[]] w fun e w' => (∃ v', e = .returned v' ∧ OS w.heap.size w' v' (xs.map (·.name))) ∧ Below w.heap.size w w' := by
  rcases hr.open with ⟨rfl, a, c, rfl⟩ | ⟨b, o, c, rfl, hc, hn, _, hcs⟩
  · clear hr
    go_enter Try.func68, Try.ntmps68
    go_wp2
    refine wp_loop_rounds 1 ?_
    rw [rounds_succ]
    go_wp2
    exact bodyPost_ret (v := .slice none 0 0) (by simp [results, Try.results68, go_sem]) rfl ⟨⟨_, rfl, OS_nil _ _⟩, brf _⟩
  · unfold maxLen at hn
    have HC := hide hcs
    clear hcs hr
    obtain ⟨i0, hi, hz0, hz1, hz2⟩ := info_parts info9
    go_enter Try.func68, Try.ntmps68
    go_wp2
    go_loopw [5, 10] (fun v i wr => ∃ k : Nat, k ≤ xs.length ∧ i = .int .i64 k ∧ OS w.heap.size wr v ((xs.take k).map (·.name)) ∧ Below w.heap.size w wr) (fun _ i _ => xs.length - (intOf i).toNat)
    case atStart => exact ⟨0, Nat.zero_le _, rfl, OS_nil _ _, brf _⟩
    case round =>
      obtain ⟨k, hk, rfl, hown, hb⟩ := hrel
      by_cases hlt : k < xs.length
      · have hx : xs[k]? = some xs[k] := List.getElem?_eq_getElem hlt
        have hst : (xs.take (k + 1)).map (fun x : Pin => x.name) = (xs.take k).map (fun x : Pin => x.name) ++ [xs[k].name] := by
          rw [List.take_add_one, hx, List.map_append]; rfl
        have hlen : ((xs.take k).map (fun x : Pin => x.name)).length = k := by rw [List.length_map, List.length_take]; omega
        generalize xs[k] = x at hx hst
        obtain ⟨u, hul, hat, hrx⟩ := unhide HC k x hx
        unfold RPin at hrx
        obtain ⟨rfl, hbn⟩ := hrx
        have k0 := cell_later hb (hat.get (j := 0) rfl)
        have k1 := cell_later hb (hat.get (j := 1) rfl)
        simp only [Nat.add_zero] at k0
        have hsz := hb.size
        have HB := hide hb
        have HST := hide hst
        have HO := hide hown
        have HLEN := hide hlen
        have HSZ := hide hsz
        have HN := hide hbn
        clear hb hat hul HC hst hown hlen hsz hbn
        generalize hnm : x.name = nm at *
        generalize hq1 : x.lit = z1 at *
        go_wp2_with (first
          | (go_at_call 64; refine (iToldPinS nm z1 _).mono ?_; rintro e W1 ⟨rfl, hb1⟩; have HO1 := hide ((unhide HO).later (btr (bal (brf wr) _) hb1)); have HB1 := hide (btr (bal (unhide HB) _) hb1); clear hb1)
          | (at_builtin; refine wpList_append_own _ rfl _ _ 22 rfl w.heap.size 9 i0 (.string ByteArray.empty) 1 16 Try.underlying22 hi hz0 hz1 hz2 rfl (by decide) _ _ _ rfl ((unhide HO1).1.alloc _) ⟨W1.heap.size, 0, none⟩ 1 1 [.string nm] rfl rfl (newS _ _ _ rfl) (oneS _) (by have := unhide HLEN; unfold maxLen; omega) (by have := unhide HLEN; omega) (by have := (unhide HB1).size; simp; omega) ?_; intro v' w2 hown' hgrow _)
          | go_in)
        have R1 : OS w.heap.size w2 v' ((xs.take (k + 1)).map (fun x : Pin => x.name)) := by
          rw [unhide HST]; exact OS.step hown' (unhide HO1).2 (unhide HN)
        have R2 := below_grown (bal (unhide HB1) (.cells #[.string nm] 9)) hgrow (by have := (unhide HB1).size; simp; omega) (own_row (unhide HO1).1)
        go_roundw
        case rel => exact ⟨k + 1, by omega, by go_num, R1, R2⟩
        case measure => simp [intOf]; omega
      · obtain rfl : k = xs.length := by omega
        rw [List.take_of_length_le (Nat.le_refl _)] at hown
        have HO := hide hown
        have HB := hide hb
        clear hown hb HC
        go_wp2
        exact bodyPost_ret (v := u5) (by simp [results, Try.results68, go_sem]) rfl ⟨⟨_, rfl, unhide HO⟩, unhide HB⟩
set_option maxHeartbeats 1600000 in
theorem iToldLatchS (nm : ByteArray) (z1 z2 z3 : Int) (w : World) : Calls Try.prog 67 #[.agg #[.string nm, .int .i64 z1, .int .i64 z2, .int .i64 z3]] w fun e w' => e = .returned (.string nm) ∧ Below w.heap.size w w' := by
  go_enter Try.func67, Try.ntmps67
  go_wp2
  exact bodyPost_ret (v := .string nm) (by simp [results, Try.results67, go_sem]) rfl ⟨rfl, bal (brf w) _⟩
set_option maxHeartbeats 1600000 in
theorem iListLatchS (xs : List Latch) (v : Value) (w : World) (hl : xs.length ≤ 1048576) (hr : RS 4 RLatch w 0 xs v) :
    Calls Try.prog 66 #[v, .func (.func 67) #[] #[]] w fun e w' => (∃ v', e = .returned v' ∧ OS w.heap.size w' v' (xs.map (·.name))) ∧ Below w.heap.size w w' := by
  rcases hr.open with ⟨rfl, a, c, rfl⟩ | ⟨b, o, c, rfl, hc, hn, _, hcs⟩
  · clear hr
    go_enter Try.func66, Try.ntmps66
    go_wp2
    refine wp_loop_rounds 1 ?_
    rw [rounds_succ]
    go_wp2
    exact bodyPost_ret (v := .slice none 0 0) (by simp [results, Try.results66, go_sem]) rfl ⟨⟨_, rfl, OS_nil _ _⟩, brf _⟩
  · unfold maxLen at hn
    have HC := hide hcs
    clear hcs hr
    obtain ⟨i0, hi, hz0, hz1, hz2⟩ := info_parts info9
    go_enter Try.func66, Try.ntmps66
    go_wp2
    go_loopw [5, 10] (fun v i wr => ∃ k : Nat, k ≤ xs.length ∧ i = .int .i64 k ∧ OS w.heap.size wr v ((xs.take k).map (·.name)) ∧ Below w.heap.size w wr) (fun _ i _ => xs.length - (intOf i).toNat)
    case atStart => exact ⟨0, Nat.zero_le _, rfl, OS_nil _ _, brf _⟩
    case round =>
      obtain ⟨k, hk, rfl, hown, hb⟩ := hrel
      by_cases hlt : k < xs.length
      · have hx : xs[k]? = some xs[k] := List.getElem?_eq_getElem hlt
        have hst : (xs.take (k + 1)).map (fun x : Latch => x.name) = (xs.take k).map (fun x : Latch => x.name) ++ [xs[k].name] := by
          rw [List.take_add_one, hx, List.map_append]; rfl
        have hlen : ((xs.take k).map (fun x : Latch => x.name)).length = k := by rw [List.length_map, List.length_take]; omega
        generalize xs[k] = x at hx hst
        obtain ⟨u, hul, hat, hrx⟩ := unhide HC k x hx
        unfold RLatch at hrx
        obtain ⟨rfl, hbn⟩ := hrx
        have k0 := cell_later hb (hat.get (j := 0) rfl)
        have k1 := cell_later hb (hat.get (j := 1) rfl)
        have k2 := cell_later hb (hat.get (j := 2) rfl)
        have k3 := cell_later hb (hat.get (j := 3) rfl)
        simp only [Nat.add_zero] at k0
        have hsz := hb.size
        have HB := hide hb
        have HST := hide hst
        have HO := hide hown
        have HLEN := hide hlen
        have HSZ := hide hsz
        have HN := hide hbn
        clear hb hat hul HC hst hown hlen hsz hbn
        generalize hnm : x.name = nm at *
        generalize hq1 : x.next = z1 at *
        generalize hq2 : x.init = z2 at *
        generalize hq3 : x.clock = z3 at *
        go_wp2_with (first
          | (go_at_call 67; refine (iToldLatchS nm z1 z2 z3 _).mono ?_; rintro e W1 ⟨rfl, hb1⟩; have HO1 := hide ((unhide HO).later (btr (bal (brf wr) _) hb1)); have HB1 := hide (btr (bal (unhide HB) _) hb1); clear hb1)
          | (at_builtin; refine wpList_append_own _ rfl _ _ 22 rfl w.heap.size 9 i0 (.string ByteArray.empty) 1 16 Try.underlying22 hi hz0 hz1 hz2 rfl (by decide) _ _ _ rfl ((unhide HO1).1.alloc _) ⟨W1.heap.size, 0, none⟩ 1 1 [.string nm] rfl rfl (newS _ _ _ rfl) (oneS _) (by have := unhide HLEN; unfold maxLen; omega) (by have := unhide HLEN; omega) (by have := (unhide HB1).size; simp; omega) ?_; intro v' w2 hown' hgrow _)
          | go_in)
        have R1 : OS w.heap.size w2 v' ((xs.take (k + 1)).map (fun x : Latch => x.name)) := by
          rw [unhide HST]; exact OS.step hown' (unhide HO1).2 (unhide HN)
        have R2 := below_grown (bal (unhide HB1) (.cells #[.string nm] 9)) hgrow (by have := (unhide HB1).size; simp; omega) (own_row (unhide HO1).1)
        go_roundw
        case rel => exact ⟨k + 1, by omega, by go_num, R1, R2⟩
        case measure => simp [intOf]; omega
      · obtain rfl : k = xs.length := by omega
        rw [List.take_of_length_le (Nat.le_refl _)] at hown
        have HO := hide hown
        have HB := hide hb
        clear hown hb HC
        go_wp2
        exact bodyPost_ret (v := u5) (by simp [results, Try.results66, go_sem]) rfl ⟨⟨_, rfl, unhide HO⟩, unhide HB⟩
set_option maxHeartbeats 1600000 in
theorem iToldPinI (nm : ByteArray) (z1 : Int) (w : World) : Calls Try.prog 72 #[.agg #[.string nm, .int .i64 z1]] w fun e w' => e = .returned (.int .i64 z1) ∧ Below w.heap.size w w' := by
  go_enter Try.func72, Try.ntmps72
  go_wp2
  exact bodyPost_ret (v := .int .i64 z1) (by simp [results, Try.results72, go_sem]) rfl ⟨rfl, bal (brf w) _⟩
set_option maxHeartbeats 1600000 in
theorem iListPinI (xs : List Pin) (v : Value) (w : World) (hl : xs.length ≤ 1048576) (hr : RS 2 RPin w 0 xs v) :
    Calls Try.prog 74 #[v, .func (.func 72) #[] #[]] w fun e w' => (∃ v', e = .returned v' ∧ OI w.heap.size w' v' (xs.map (·.lit))) ∧ Below w.heap.size w w' := by
  rcases hr.open with ⟨rfl, a, c, rfl⟩ | ⟨b, o, c, rfl, hc, hn, _, hcs⟩
  · clear hr
    go_enter Try.func74, Try.ntmps74
    go_wp2
    refine wp_loop_rounds 1 ?_
    rw [rounds_succ]
    go_wp2
    exact bodyPost_ret (v := .slice none 0 0) (by simp [results, Try.results74, go_sem]) rfl ⟨⟨_, rfl, OI_nil _ _⟩, brf _⟩
  · unfold maxLen at hn
    have HC := hide hcs
    clear hcs hr
    obtain ⟨i0, hi, hz0, hz1, hz2⟩ := info_parts info3
    go_enter Try.func74, Try.ntmps74
    go_wp2
    go_loopw [5, 10] (fun v i wr => ∃ k : Nat, k ≤ xs.length ∧ i = .int .i64 k ∧ OI w.heap.size wr v ((xs.take k).map (·.lit)) ∧ Below w.heap.size w wr) (fun _ i _ => xs.length - (intOf i).toNat)
    case atStart => exact ⟨0, Nat.zero_le _, rfl, OI_nil _ _, brf _⟩
    case round =>
      obtain ⟨k, hk, rfl, hown, hb⟩ := hrel
      by_cases hlt : k < xs.length
      · have hx : xs[k]? = some xs[k] := List.getElem?_eq_getElem hlt
        have hst : (xs.take (k + 1)).map (fun x : Pin => x.lit) = (xs.take k).map (fun x : Pin => x.lit) ++ [xs[k].lit] := by
          rw [List.take_add_one, hx, List.map_append]; rfl
        have hlen : ((xs.take k).map (fun x : Pin => x.lit)).length = k := by rw [List.length_map, List.length_take]; omega
        generalize xs[k] = x at hx hst
        obtain ⟨u, hul, hat, hrx⟩ := unhide HC k x hx
        unfold RPin at hrx
        obtain ⟨rfl, hbn⟩ := hrx
        have k0 := cell_later hb (hat.get (j := 0) rfl)
        have k1 := cell_later hb (hat.get (j := 1) rfl)
        simp only [Nat.add_zero] at k0
        have hsz := hb.size
        have HB := hide hb
        have HST := hide hst
        have HO := hide hown
        have HLEN := hide hlen
        have HSZ := hide hsz
        have HN := hide hbn
        clear hb hat hul HC hst hown hlen hsz hbn
        generalize hnm : x.name = nm at *
        generalize hq1 : x.lit = z1 at *
        go_wp2_with (first
          | (go_at_call 72; refine (iToldPinI nm z1 _).mono ?_; rintro e W1 ⟨rfl, hb1⟩; have HO1 := hide ((unhide HO).later (btr (bal (brf wr) _) hb1)); have HB1 := hide (btr (bal (unhide HB) _) hb1); clear hb1)
          | (at_builtin; refine wpList_append_own _ rfl _ _ 51 rfl w.heap.size 3 i0 (.int .i64 0) 1 8 Try.underlying51 hi hz0 hz1 hz2 rfl (by decide) _ _ _ rfl ((show World.ownsRow _ _ _ _ _ _ _ from unhide HO1).alloc _) ⟨W1.heap.size, 0, none⟩ 1 1 [.int .i64 z1] rfl rfl (newI _ _ _ rfl) (oneI _) (by have := unhide HLEN; unfold maxLen; omega) (by have := unhide HLEN; omega) (by have := (unhide HB1).size; simp; omega) ?_; intro v' w2 hown' hgrow _)
          | go_in)
        have R1 : OI w.heap.size w2 v' ((xs.take (k + 1)).map (fun x : Pin => x.lit)) := by
          rw [unhide HST]; exact OI.step hown'
        have R2 := below_grown (bal (unhide HB1) (.cells #[.int .i64 z1] 3)) hgrow (by have := (unhide HB1).size; simp; omega) ((unhide HO1).row)
        go_roundw
        case rel => exact ⟨k + 1, by omega, by go_num, R1, R2⟩
        case measure => simp [intOf]; omega
      · obtain rfl : k = xs.length := by omega
        rw [List.take_of_length_le (Nat.le_refl _)] at hown
        have HO := hide hown
        have HB := hide hb
        clear hown hb HC
        go_wp2
        exact bodyPost_ret (v := u5) (by simp [results, Try.results74, go_sem]) rfl ⟨⟨_, rfl, unhide HO⟩, unhide HB⟩
set_option maxHeartbeats 1600000 in
theorem iToldLatchI (nm : ByteArray) (z1 z2 z3 : Int) (w : World) : Calls Try.prog 76 #[.agg #[.string nm, .int .i64 z1, .int .i64 z2, .int .i64 z3]] w fun e w' => e = .returned (.int .i64 z1) ∧ Below w.heap.size w w' := by
  go_enter Try.func76, Try.ntmps76
  go_wp2
  exact bodyPost_ret (v := .int .i64 z1) (by simp [results, Try.results76, go_sem]) rfl ⟨rfl, bal (brf w) _⟩
set_option maxHeartbeats 1600000 in
theorem iListLatchI (xs : List Latch) (v : Value) (w : World) (hl : xs.length ≤ 1048576) (hr : RS 4 RLatch w 0 xs v) :
    Calls Try.prog 75 #[v, .func (.func 76) #[] #[]] w fun e w' => (∃ v', e = .returned v' ∧ OI w.heap.size w' v' (xs.map (·.next))) ∧ Below w.heap.size w w' := by
  rcases hr.open with ⟨rfl, a, c, rfl⟩ | ⟨b, o, c, rfl, hc, hn, _, hcs⟩
  · clear hr
    go_enter Try.func75, Try.ntmps75
    go_wp2
    refine wp_loop_rounds 1 ?_
    rw [rounds_succ]
    go_wp2
    exact bodyPost_ret (v := .slice none 0 0) (by simp [results, Try.results75, go_sem]) rfl ⟨⟨_, rfl, OI_nil _ _⟩, brf _⟩
  · unfold maxLen at hn
    have HC := hide hcs
    clear hcs hr
    obtain ⟨i0, hi, hz0, hz1, hz2⟩ := info_parts info3
    go_enter Try.func75, Try.ntmps75
    go_wp2
    go_loopw [5, 10] (fun v i wr => ∃ k : Nat, k ≤ xs.length ∧ i = .int .i64 k ∧ OI w.heap.size wr v ((xs.take k).map (·.next)) ∧ Below w.heap.size w wr) (fun _ i _ => xs.length - (intOf i).toNat)
    case atStart => exact ⟨0, Nat.zero_le _, rfl, OI_nil _ _, brf _⟩
    case round =>
      obtain ⟨k, hk, rfl, hown, hb⟩ := hrel
      by_cases hlt : k < xs.length
      · have hx : xs[k]? = some xs[k] := List.getElem?_eq_getElem hlt
        have hst : (xs.take (k + 1)).map (fun x : Latch => x.next) = (xs.take k).map (fun x : Latch => x.next) ++ [xs[k].next] := by
          rw [List.take_add_one, hx, List.map_append]; rfl
        have hlen : ((xs.take k).map (fun x : Latch => x.next)).length = k := by rw [List.length_map, List.length_take]; omega
        generalize xs[k] = x at hx hst
        obtain ⟨u, hul, hat, hrx⟩ := unhide HC k x hx
        unfold RLatch at hrx
        obtain ⟨rfl, hbn⟩ := hrx
        have k0 := cell_later hb (hat.get (j := 0) rfl)
        have k1 := cell_later hb (hat.get (j := 1) rfl)
        have k2 := cell_later hb (hat.get (j := 2) rfl)
        have k3 := cell_later hb (hat.get (j := 3) rfl)
        simp only [Nat.add_zero] at k0
        have hsz := hb.size
        have HB := hide hb
        have HST := hide hst
        have HO := hide hown
        have HLEN := hide hlen
        have HSZ := hide hsz
        have HN := hide hbn
        clear hb hat hul HC hst hown hlen hsz hbn
        generalize hnm : x.name = nm at *
        generalize hq1 : x.next = z1 at *
        generalize hq2 : x.init = z2 at *
        generalize hq3 : x.clock = z3 at *
        go_wp2_with (first
          | (go_at_call 76; refine (iToldLatchI nm z1 z2 z3 _).mono ?_; rintro e W1 ⟨rfl, hb1⟩; have HO1 := hide ((unhide HO).later (btr (bal (brf wr) _) hb1)); have HB1 := hide (btr (bal (unhide HB) _) hb1); clear hb1)
          | (at_builtin; refine wpList_append_own _ rfl _ _ 51 rfl w.heap.size 3 i0 (.int .i64 0) 1 8 Try.underlying51 hi hz0 hz1 hz2 rfl (by decide) _ _ _ rfl ((show World.ownsRow _ _ _ _ _ _ _ from unhide HO1).alloc _) ⟨W1.heap.size, 0, none⟩ 1 1 [.int .i64 z1] rfl rfl (newI _ _ _ rfl) (oneI _) (by have := unhide HLEN; unfold maxLen; omega) (by have := unhide HLEN; omega) (by have := (unhide HB1).size; simp; omega) ?_; intro v' w2 hown' hgrow _)
          | go_in)
        have R1 : OI w.heap.size w2 v' ((xs.take (k + 1)).map (fun x : Latch => x.next)) := by
          rw [unhide HST]; exact OI.step hown'
        have R2 := below_grown (bal (unhide HB1) (.cells #[.int .i64 z1] 3)) hgrow (by have := (unhide HB1).size; simp; omega) ((unhide HO1).row)
        go_roundw
        case rel => exact ⟨k + 1, by omega, by go_num, R1, R2⟩
        case measure => simp [intOf]; omega
      · obtain rfl : k = xs.length := by omega
        rw [List.take_of_length_le (Nat.le_refl _)] at hown
        have HO := hide hown
        have HB := hide hb
        clear hown hb HC
        go_wp2
        exact bodyPost_ret (v := u5) (by simp [results, Try.results75, go_sem]) rfl ⟨⟨_, rfl, unhide HO⟩, unhide HB⟩
end Go.Proofs.Ytnoklbnacfmpdac
