/- listOf: what is told of each of some things, in a slice of one's own. -/
import Derived.Test.YthbcokioijpofabGreatLO
import Derived.Test.YthbcokioijpofabGreatGf
namespace Go.Proofs.YthbcokioijpofabGreat
open Go.RowKit Gs
set_option linter.unusedVariables false
set_option maxRecDepth 100000
set_option maxHeartbeats 1600000 in
theorem iToldPortS (nm : ByteArray) (z1 : Int) (w : World) : Calls Tryz.prog 83 #[.agg #[.string nm, .int .i64 z1]] w fun e w' => e = .returned (.string nm) ∧ Below w.heap.size w w' := by
  go_enter Tryz.func83, Tryz.ntmps83
  go_wp2
  exact bodyPost_ret (v := .string nm) (by simp [results, Tryz.results83, go_sem]) rfl ⟨rfl, bal (brf w) _⟩
set_option maxHeartbeats 1600000 in
theorem iListPortS (xs : List Port) (v : Value) (w : World) (hl : xs.length ≤ 1048576) (hr : RS 2 RPort w 0 xs v) :
    Calls Tryz.prog 87 #[v, .func (.func 83) #[] #[]] w fun e w' => (∃ v', e = .returned v' ∧ OS w.heap.size w' v' (xs.map (·.name))) ∧ Below w.heap.size w w' := by
  rcases hr.open with ⟨rfl, a, c, rfl⟩ | ⟨b, o, c, rfl, hc, hn, _, hcs⟩
  · clear hr
    go_enter Tryz.func87, Tryz.ntmps87
    go_wp2
    refine wp_loop_rounds 1 ?_
    rw [rounds_succ]
    go_wp2
    exact bodyPost_ret (v := .slice none 0 0) (by simp [results, Tryz.results87, go_sem]) rfl ⟨⟨_, rfl, OS_nil _ _⟩, brf _⟩
  · unfold maxLen at hn
    have HC := hide hcs
    clear hcs hr
    obtain ⟨i0, hi, hz0, hz1, hz2⟩ := info_parts info9
    go_enter Tryz.func87, Tryz.ntmps87
    go_wp2
    go_loopw [5, 10] (fun v i wr => ∃ k : Nat, k ≤ xs.length ∧ i = .int .i64 k ∧ OS w.heap.size wr v ((xs.take k).map (·.name)) ∧ Below w.heap.size w wr) (fun _ i _ => xs.length - (intOf i).toNat)
    case atStart => exact ⟨0, Nat.zero_le _, rfl, OS_nil _ _, brf _⟩
    case round =>
      obtain ⟨k, hk, rfl, hown, hb⟩ := hrel
      by_cases hlt : k < xs.length
      · have hx : xs[k]? = some xs[k] := List.getElem?_eq_getElem hlt
        have hst : (xs.take (k + 1)).map (fun x : Port => x.name) = (xs.take k).map (fun x : Port => x.name) ++ [xs[k].name] := by
          rw [List.take_add_one, hx, List.map_append]; rfl
        have hlen : ((xs.take k).map (fun x : Port => x.name)).length = k := by rw [List.length_map, List.length_take]; omega
        generalize xs[k] = x at hx hst
        obtain ⟨u, hul, hat, hrx⟩ := unhide HC k x hx
        unfold RPort at hrx
        obtain ⟨rfl, hbn⟩ := hrx
        have k0 := cell_later hb (hat.get (j := 0) rfl)
        have k1 := cell_later hb (hat.get (j := 1) rfl)
        simp only [Nat.add_zero] at k0
        have hsz := hb.size
        have HB := hide hb
        have HST := hide hst
        have HO := hide hown
        have HLEN := hide hlen
        have HSZ := hide hsz
        have HN := hide hbn
        clear hb hat hul HC hst hown hlen hsz hbn
        generalize hnm : x.name = nm at *
        generalize hq1 : x.src = z1 at *
        go_wp2_with (first
          | (go_at_call 83; refine (iToldPortS nm z1 _).mono ?_; rintro e W1 ⟨rfl, hb1⟩; have HO1 := hide ((unhide HO).later (btr (bal (brf wr) _) hb1)); have HB1 := hide (btr (bal (unhide HB) _) hb1); clear hb1)
          | (at_builtin; refine wpList_append_own _ rfl _ _ 22 rfl w.heap.size 9 i0 (.string ByteArray.empty) 1 16 Tryz.underlying22 hi hz0 hz1 hz2 rfl (by decide) _ _ _ rfl ((unhide HO1).1.alloc _) ⟨W1.heap.size, 0, none⟩ 1 1 [.string nm] rfl rfl (newS _ _ _ rfl) (oneS _) (by have := unhide HLEN; unfold maxLen; omega) (by have := unhide HLEN; omega) (by have := (unhide HB1).size; simp; omega) ?_; intro v' w2 hown' hgrow _)
          | go_in)
        have R1 : OS w.heap.size w2 v' ((xs.take (k + 1)).map (fun x : Port => x.name)) := by
          rw [unhide HST]; exact OS.step hown' (unhide HO1).2 (unhide HN)
        have R2 := below_grown (bal (unhide HB1) (.cells #[.string nm] 9)) hgrow (by have := (unhide HB1).size; simp; omega) (own_row (unhide HO1).1)
        go_roundw
        case rel => exact ⟨k + 1, by omega, by go_num, R1, R2⟩
        case measure => simp [intOf]; omega
      · obtain rfl : k = xs.length := by omega
        rw [List.take_of_length_le (Nat.le_refl _)] at hown
        have HO := hide hown
        have HB := hide hb
        clear hown hb HC
        go_wp2
        exact bodyPost_ret (v := u5) (by simp [results, Tryz.results87, go_sem]) rfl ⟨⟨_, rfl, unhide HO⟩, unhide HB⟩
set_option maxHeartbeats 1600000 in
theorem iToldMapRegS (nm : ByteArray) (z1 z2 z3 : Int) (w : World) : Calls Tryz.prog 86 #[.agg #[.string nm, .int .i64 z1, .int .i64 z2, .int .i64 z3]] w fun e w' => e = .returned (.string nm) ∧ Below w.heap.size w w' := by
  go_enter Tryz.func86, Tryz.ntmps86
  go_wp2
  exact bodyPost_ret (v := .string nm) (by simp [results, Tryz.results86, go_sem]) rfl ⟨rfl, bal (brf w) _⟩
set_option maxHeartbeats 1600000 in
theorem iListMapRegS (xs : List MapReg) (v : Value) (w : World) (hl : xs.length ≤ 1048576) (hr : RS 4 RMapReg w 0 xs v) :
    Calls Tryz.prog 85 #[v, .func (.func 86) #[] #[]] w fun e w' => (∃ v', e = .returned v' ∧ OS w.heap.size w' v' (xs.map (·.name))) ∧ Below w.heap.size w w' := by
  rcases hr.open with ⟨rfl, a, c, rfl⟩ | ⟨b, o, c, rfl, hc, hn, _, hcs⟩
  · clear hr
    go_enter Tryz.func85, Tryz.ntmps85
    go_wp2
    refine wp_loop_rounds 1 ?_
    rw [rounds_succ]
    go_wp2
    exact bodyPost_ret (v := .slice none 0 0) (by simp [results, Tryz.results85, go_sem]) rfl ⟨⟨_, rfl, OS_nil _ _⟩, brf _⟩
  · unfold maxLen at hn
    have HC := hide hcs
    clear hcs hr
    obtain ⟨i0, hi, hz0, hz1, hz2⟩ := info_parts info9
    go_enter Tryz.func85, Tryz.ntmps85
    go_wp2
    go_loopw [5, 10] (fun v i wr => ∃ k : Nat, k ≤ xs.length ∧ i = .int .i64 k ∧ OS w.heap.size wr v ((xs.take k).map (·.name)) ∧ Below w.heap.size w wr) (fun _ i _ => xs.length - (intOf i).toNat)
    case atStart => exact ⟨0, Nat.zero_le _, rfl, OS_nil _ _, brf _⟩
    case round =>
      obtain ⟨k, hk, rfl, hown, hb⟩ := hrel
      by_cases hlt : k < xs.length
      · have hx : xs[k]? = some xs[k] := List.getElem?_eq_getElem hlt
        have hst : (xs.take (k + 1)).map (fun x : MapReg => x.name) = (xs.take k).map (fun x : MapReg => x.name) ++ [xs[k].name] := by
          rw [List.take_add_one, hx, List.map_append]; rfl
        have hlen : ((xs.take k).map (fun x : MapReg => x.name)).length = k := by rw [List.length_map, List.length_take]; omega
        generalize xs[k] = x at hx hst
        obtain ⟨u, hul, hat, hrx⟩ := unhide HC k x hx
        unfold RMapReg at hrx
        obtain ⟨rfl, hbn⟩ := hrx
        have k0 := cell_later hb (hat.get (j := 0) rfl)
        have k1 := cell_later hb (hat.get (j := 1) rfl)
        have k2 := cell_later hb (hat.get (j := 2) rfl)
        have k3 := cell_later hb (hat.get (j := 3) rfl)
        simp only [Nat.add_zero] at k0
        have hsz := hb.size
        have HB := hide hb
        have HST := hide hst
        have HO := hide hown
        have HLEN := hide hlen
        have HSZ := hide hsz
        have HN := hide hbn
        clear hb hat hul HC hst hown hlen hsz hbn
        generalize hnm : x.name = nm at *
        generalize hq1 : x.src = z1 at *
        generalize hq2 : x.init = z2 at *
        generalize hq3 : x.clock = z3 at *
        go_wp2_with (first
          | (go_at_call 86; refine (iToldMapRegS nm z1 z2 z3 _).mono ?_; rintro e W1 ⟨rfl, hb1⟩; have HO1 := hide ((unhide HO).later (btr (bal (brf wr) _) hb1)); have HB1 := hide (btr (bal (unhide HB) _) hb1); clear hb1)
          | (at_builtin; refine wpList_append_own _ rfl _ _ 22 rfl w.heap.size 9 i0 (.string ByteArray.empty) 1 16 Tryz.underlying22 hi hz0 hz1 hz2 rfl (by decide) _ _ _ rfl ((unhide HO1).1.alloc _) ⟨W1.heap.size, 0, none⟩ 1 1 [.string nm] rfl rfl (newS _ _ _ rfl) (oneS _) (by have := unhide HLEN; unfold maxLen; omega) (by have := unhide HLEN; omega) (by have := (unhide HB1).size; simp; omega) ?_; intro v' w2 hown' hgrow _)
          | go_in)
        have R1 : OS w.heap.size w2 v' ((xs.take (k + 1)).map (fun x : MapReg => x.name)) := by
          rw [unhide HST]; exact OS.step hown' (unhide HO1).2 (unhide HN)
        have R2 := below_grown (bal (unhide HB1) (.cells #[.string nm] 9)) hgrow (by have := (unhide HB1).size; simp; omega) (own_row (unhide HO1).1)
        go_roundw
        case rel => exact ⟨k + 1, by omega, by go_num, R1, R2⟩
        case measure => simp [intOf]; omega
      · obtain rfl : k = xs.length := by omega
        rw [List.take_of_length_le (Nat.le_refl _)] at hown
        have HO := hide hown
        have HB := hide hb
        clear hown hb HC
        go_wp2
        exact bodyPost_ret (v := u5) (by simp [results, Tryz.results85, go_sem]) rfl ⟨⟨_, rfl, unhide HO⟩, unhide HB⟩
set_option maxHeartbeats 1600000 in
theorem iToldPortI (nm : ByteArray) (z1 : Int) (w : World) : Calls Tryz.prog 97 #[.agg #[.string nm, .int .i64 z1]] w fun e w' => e = .returned (.int .i64 z1) ∧ Below w.heap.size w w' := by
  go_enter Tryz.func97, Tryz.ntmps97
  go_wp2
  exact bodyPost_ret (v := .int .i64 z1) (by simp [results, Tryz.results97, go_sem]) rfl ⟨rfl, bal (brf w) _⟩
set_option maxHeartbeats 1600000 in
theorem iListPortI (xs : List Port) (v : Value) (w : World) (hl : xs.length ≤ 1048576) (hr : RS 2 RPort w 0 xs v) :
    Calls Tryz.prog 99 #[v, .func (.func 97) #[] #[]] w fun e w' => (∃ v', e = .returned v' ∧ OI w.heap.size w' v' (xs.map (·.src))) ∧ Below w.heap.size w w' := by
  rcases hr.open with ⟨rfl, a, c, rfl⟩ | ⟨b, o, c, rfl, hc, hn, _, hcs⟩
  · clear hr
    go_enter Tryz.func99, Tryz.ntmps99
    go_wp2
    refine wp_loop_rounds 1 ?_
    rw [rounds_succ]
    go_wp2
    exact bodyPost_ret (v := .slice none 0 0) (by simp [results, Tryz.results99, go_sem]) rfl ⟨⟨_, rfl, OI_nil _ _⟩, brf _⟩
  · unfold maxLen at hn
    have HC := hide hcs
    clear hcs hr
    obtain ⟨i0, hi, hz0, hz1, hz2⟩ := info_parts info3
    go_enter Tryz.func99, Tryz.ntmps99
    go_wp2
    go_loopw [5, 10] (fun v i wr => ∃ k : Nat, k ≤ xs.length ∧ i = .int .i64 k ∧ OI w.heap.size wr v ((xs.take k).map (·.src)) ∧ Below w.heap.size w wr) (fun _ i _ => xs.length - (intOf i).toNat)
    case atStart => exact ⟨0, Nat.zero_le _, rfl, OI_nil _ _, brf _⟩
    case round =>
      obtain ⟨k, hk, rfl, hown, hb⟩ := hrel
      by_cases hlt : k < xs.length
      · have hx : xs[k]? = some xs[k] := List.getElem?_eq_getElem hlt
        have hst : (xs.take (k + 1)).map (fun x : Port => x.src) = (xs.take k).map (fun x : Port => x.src) ++ [xs[k].src] := by
          rw [List.take_add_one, hx, List.map_append]; rfl
        have hlen : ((xs.take k).map (fun x : Port => x.src)).length = k := by rw [List.length_map, List.length_take]; omega
        generalize xs[k] = x at hx hst
        obtain ⟨u, hul, hat, hrx⟩ := unhide HC k x hx
        unfold RPort at hrx
        obtain ⟨rfl, hbn⟩ := hrx
        have k0 := cell_later hb (hat.get (j := 0) rfl)
        have k1 := cell_later hb (hat.get (j := 1) rfl)
        simp only [Nat.add_zero] at k0
        have hsz := hb.size
        have HB := hide hb
        have HST := hide hst
        have HO := hide hown
        have HLEN := hide hlen
        have HSZ := hide hsz
        have HN := hide hbn
        clear hb hat hul HC hst hown hlen hsz hbn
        generalize hnm : x.name = nm at *
        generalize hq1 : x.src = z1 at *
        go_wp2_with (first
          | (go_at_call 97; refine (iToldPortI nm z1 _).mono ?_; rintro e W1 ⟨rfl, hb1⟩; have HO1 := hide ((unhide HO).later (btr (bal (brf wr) _) hb1)); have HB1 := hide (btr (bal (unhide HB) _) hb1); clear hb1)
          | (at_builtin; refine wpList_append_own _ rfl _ _ 67 rfl w.heap.size 3 i0 (.int .i64 0) 1 8 Tryz.underlying67 hi hz0 hz1 hz2 rfl (by decide) _ _ _ rfl ((show World.ownsRow _ _ _ _ _ _ _ from unhide HO1).alloc _) ⟨W1.heap.size, 0, none⟩ 1 1 [.int .i64 z1] rfl rfl (newI _ _ _ rfl) (oneI _) (by have := unhide HLEN; unfold maxLen; omega) (by have := unhide HLEN; omega) (by have := (unhide HB1).size; simp; omega) ?_; intro v' w2 hown' hgrow _)
          | go_in)
        have R1 : OI w.heap.size w2 v' ((xs.take (k + 1)).map (fun x : Port => x.src)) := by
          rw [unhide HST]; exact OI.step hown'
        have R2 := below_grown (bal (unhide HB1) (.cells #[.int .i64 z1] 3)) hgrow (by have := (unhide HB1).size; simp; omega) ((unhide HO1).row)
        go_roundw
        case rel => exact ⟨k + 1, by omega, by go_num, R1, R2⟩
        case measure => simp [intOf]; omega
      · obtain rfl : k = xs.length := by omega
        rw [List.take_of_length_le (Nat.le_refl _)] at hown
        have HO := hide hown
        have HB := hide hb
        clear hown hb HC
        go_wp2
        exact bodyPost_ret (v := u5) (by simp [results, Tryz.results99, go_sem]) rfl ⟨⟨_, rfl, unhide HO⟩, unhide HB⟩
set_option maxHeartbeats 1600000 in
theorem iToldMapRegI (nm : ByteArray) (z1 z2 z3 : Int) (w : World) : Calls Tryz.prog 101 #[.agg #[.string nm, .int .i64 z1, .int .i64 z2, .int .i64 z3]] w fun e w' => e = .returned (.int .i64 z1) ∧ Below w.heap.size w w' := by
  go_enter Tryz.func101, Tryz.ntmps101
  go_wp2
  exact bodyPost_ret (v := .int .i64 z1) (by simp [results, Tryz.results101, go_sem]) rfl ⟨rfl, bal (brf w) _⟩
set_option maxHeartbeats 1600000 in
theorem iListMapRegI (xs : List MapReg) (v : Value) (w : World) (hl : xs.length ≤ 1048576) (hr : RS 4 RMapReg w 0 xs v) :
    Calls Tryz.prog 100 #[v, .func (.func 101) #[] #[]] w fun e w' => (∃ v', e = .returned v' ∧ OI w.heap.size w' v' (xs.map (·.src))) ∧ Below w.heap.size w w' := by
  rcases hr.open with ⟨rfl, a, c, rfl⟩ | ⟨b, o, c, rfl, hc, hn, _, hcs⟩
  · clear hr
    go_enter Tryz.func100, Tryz.ntmps100
    go_wp2
    refine wp_loop_rounds 1 ?_
    rw [rounds_succ]
    go_wp2
    exact bodyPost_ret (v := .slice none 0 0) (by simp [results, Tryz.results100, go_sem]) rfl ⟨⟨_, rfl, OI_nil _ _⟩, brf _⟩
  · unfold maxLen at hn
    have HC := hide hcs
    clear hcs hr
    obtain ⟨i0, hi, hz0, hz1, hz2⟩ := info_parts info3
    go_enter Tryz.func100, Tryz.ntmps100
    go_wp2
    go_loopw [5, 10] (fun v i wr => ∃ k : Nat, k ≤ xs.length ∧ i = .int .i64 k ∧ OI w.heap.size wr v ((xs.take k).map (·.src)) ∧ Below w.heap.size w wr) (fun _ i _ => xs.length - (intOf i).toNat)
    case atStart => exact ⟨0, Nat.zero_le _, rfl, OI_nil _ _, brf _⟩
    case round =>
      obtain ⟨k, hk, rfl, hown, hb⟩ := hrel
      by_cases hlt : k < xs.length
      · have hx : xs[k]? = some xs[k] := List.getElem?_eq_getElem hlt
        have hst : (xs.take (k + 1)).map (fun x : MapReg => x.src) = (xs.take k).map (fun x : MapReg => x.src) ++ [xs[k].src] := by
          rw [List.take_add_one, hx, List.map_append]; rfl
        have hlen : ((xs.take k).map (fun x : MapReg => x.src)).length = k := by rw [List.length_map, List.length_take]; omega
        generalize xs[k] = x at hx hst
        obtain ⟨u, hul, hat, hrx⟩ := unhide HC k x hx
        unfold RMapReg at hrx
        obtain ⟨rfl, hbn⟩ := hrx
        have k0 := cell_later hb (hat.get (j := 0) rfl)
        have k1 := cell_later hb (hat.get (j := 1) rfl)
        have k2 := cell_later hb (hat.get (j := 2) rfl)
        have k3 := cell_later hb (hat.get (j := 3) rfl)
        simp only [Nat.add_zero] at k0
        have hsz := hb.size
        have HB := hide hb
        have HST := hide hst
        have HO := hide hown
        have HLEN := hide hlen
        have HSZ := hide hsz
        have HN := hide hbn
        clear hb hat hul HC hst hown hlen hsz hbn
        generalize hnm : x.name = nm at *
        generalize hq1 : x.src = z1 at *
        generalize hq2 : x.init = z2 at *
        generalize hq3 : x.clock = z3 at *
        go_wp2_with (first
          | (go_at_call 101; refine (iToldMapRegI nm z1 z2 z3 _).mono ?_; rintro e W1 ⟨rfl, hb1⟩; have HO1 := hide ((unhide HO).later (btr (bal (brf wr) _) hb1)); have HB1 := hide (btr (bal (unhide HB) _) hb1); clear hb1)
          | (at_builtin; refine wpList_append_own _ rfl _ _ 67 rfl w.heap.size 3 i0 (.int .i64 0) 1 8 Tryz.underlying67 hi hz0 hz1 hz2 rfl (by decide) _ _ _ rfl ((show World.ownsRow _ _ _ _ _ _ _ from unhide HO1).alloc _) ⟨W1.heap.size, 0, none⟩ 1 1 [.int .i64 z1] rfl rfl (newI _ _ _ rfl) (oneI _) (by have := unhide HLEN; unfold maxLen; omega) (by have := unhide HLEN; omega) (by have := (unhide HB1).size; simp; omega) ?_; intro v' w2 hown' hgrow _)
          | go_in)
        have R1 : OI w.heap.size w2 v' ((xs.take (k + 1)).map (fun x : MapReg => x.src)) := by
          rw [unhide HST]; exact OI.step hown'
        have R2 := below_grown (bal (unhide HB1) (.cells #[.int .i64 z1] 3)) hgrow (by have := (unhide HB1).size; simp; omega) ((unhide HO1).row)
        go_roundw
        case rel => exact ⟨k + 1, by omega, by go_num, R1, R2⟩
        case measure => simp [intOf]; omega
      · obtain rfl : k = xs.length := by omega
        rw [List.take_of_length_le (Nat.le_refl _)] at hown
        have HO := hide hown
        have HB := hide hb
        clear hown hb HC
        go_wp2
        exact bodyPost_ret (v := u5) (by simp [results, Tryz.results100, go_sem]) rfl ⟨⟨_, rfl, unhide HO⟩, unhide HB⟩
end Go.Proofs.YthbcokioijpofabGreat
