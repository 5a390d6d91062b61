/- A block by itself: the mathematics; lut, regFits. -/
import Derived.Test.YtlldfaniddbjaaaGreatDoorGFB
import Derived.Test.YtlldfaniddbjaaaGreatDoorGMX
import Derived.Test.YtlldfaniddbjaaaGreatDoorGN2
namespace Go.Proofs.YtlldfaniddbjaaaGreatDoor
open Go Go.RowKit Gs
set_option linter.unusedVariables false
set_option linter.unusedSimpArgs false
set_option maxRecDepth 100000
def blk0 : Block := ⟨⟨#[]⟩, [], 0, false, 0, 0⟩
/-- What a block says of its register. -/
def regB (nc : Nat) (b : Block) : Bool := if b.reg then plB b.init 2 && plB b.clock nc else (b.name.toList.isEmpty && (b.init == 0)) && (b.clock == 0)
/-- A source that is no table with a number from k on. -/
def ahB (first : Nat) (bs : List Block) (k : Nat) (s : Int) : Bool := !decide ((k : Int) ≤ s - (first : Int)) || (bs.getD (s - (first : Int)).toNat blk0).reg
def aheadB (first : Nat) (bs : List Block) (k : Nat) (xs : List Int) : Bool := xs.all (ahB first bs k)
def blkB (first : Nat) (bs : List Block) (nc k : Nat) (b : Block) : Bool := lutB (first + bs.length) ⟨b.inp, b.table⟩ && regB nc b && (b.reg || aheadB first bs k b.inp)
def blkAt (first : Nat) (bs : List Block) (nc k : Nat) : Bool := blkB first bs nc k (bs.getD k blk0)
def blocksB (first : Nat) (bs : List Block) (nc : Nat) : Bool := upB (blkAt first bs nc) bs.length
theorem blkAt_at {first : Nat} {bs : List Block} {nc k : Nat} {b : Block} (h : bs[k]? = some b) : blkAt first bs nc k = blkB first bs nc k b := by
  unfold blkAt
  rw [show bs.getD k blk0 = b by rw [List.getD_eq_getElem?_getD, h]; rfl]
theorem insB_mem {n : Nat} {xs : List Int} (h : insB n xs = true) : ∀ x ∈ xs, 0 ≤ x ∧ x < (n : Int) := by
  intro x hx
  obtain ⟨j, hj⟩ := List.getElem?_of_mem hx
  have h1 := upB_at h (List.getElem?_eq_some_iff.1 hj).1
  rw [inAt_at hj] at h1
  unfold plB at h1
  simp only [Bool.and_eq_true, decide_eq_true_eq] at h1
  exact h1.1
theorem lutB_parts {n : Nat} {x : Lut} (h : lutB n x = true) : x.inp.length ≤ 4 ∧ ∀ y ∈ x.inp, 0 ≤ y ∧ y < (n : Int) := by
  unfold lutB at h
  simp only [Bool.and_eq_true, decide_eq_true_eq] at h
  exact ⟨h.1, insB_mem h.2.2.2⟩
theorem iLut (x0 : ByteArray) (v1 : Value) (x2 : Int) (x3 : Bool) (x4 x5 : Int) (w : World) (a1 : Option Addr) (l1 c1 : Nat) (hv : v1 = .slice a1 l1 c1) :
    Calls Tryz.prog 101 #[.agg #[.string x0, v1, .int .i64 x2, .bool x3, .int .i64 x4, .int .i64 x5]] w fun e w' => e = .returned (.agg #[v1, .int .i64 x2]) ∧ Below w.heap.size w w' := by
  subst hv
  go_enter Tryz.func101, Tryz.ntmps101
  go_wp2
  exact bodyPost_ret (v := .agg #[.slice a1 l1 c1, .int .i64 x2]) (by simp [results, Tryz.results101, go_sem]) rfl ⟨rfl, bal (bal (brf w) _) _⟩
set_option maxHeartbeats 3200000 in
theorem iRegFits (s0 s1 s2 s3 s4 : Option Addr) (l0 l1 l2 l3 l4 c0 c1 c2 c3 c4 : Nat) (b : Block) (a1 : Option Addr) (m1 d1 : Nat) (w : World) (hs : b.name.size ≤ maxLen) (hl1 : l1 ≤ 1048576) :
    Calls Tryz.prog 103 #[.agg #[.slice s0 l0 c0, .slice s1 l1 c1, .slice s2 l2 c2, .slice s3 l3 c3, .slice s4 l4 c4], .agg #[.string b.name, .slice a1 m1 d1, .int .i64 b.table, .bool b.reg, .int .i64 b.init, .int .i64 b.clock]] w fun e w' => e = .returned (.bool (regB l1 b)) ∧ Below w.heap.size w w' := by
  have HR : Hid (regB l1 b = if b.reg then plB b.init 2 && plB b.clock l1 else (b.name.toList.isEmpty && (b.init == 0)) && (b.clock == 0)) := hide rfl
  generalize regB l1 b = RR at *
  generalize b.name = nm at *
  generalize b.table = tb at *
  generalize b.init = it at *
  generalize b.clock = ck at *
  cases hreg : b.reg
  · rw [hreg] at HR
    have HR2 : Hid (RR = ((nm.toList.isEmpty && (it == 0)) && (ck == 0))) := hide (by rw [unhide HR]; rfl)
    clear HR
    cases he : nm.toList.isEmpty
    · go_enter Tryz.func103, Tryz.ntmps103
      go_wp2
      exact bodyPost_ret (v := .bool false) (by simp [results, Tryz.results103, go_sem]) rfl ⟨by rw [unhide HR2, he]; rfl, bal (bal (brf w) _) _⟩
    · by_cases hi : it = 0
      · subst hi
        go_enter Tryz.func103, Tryz.ntmps103
        go_wp2
        exact bodyPost_ret (v := .bool (ck == 0)) (by simp [results, Tryz.results103, go_sem]) rfl ⟨by rw [unhide HR2, he]; rfl, bal (bal (brf w) _) _⟩
      · go_enter Tryz.func103, Tryz.ntmps103
        go_wp2
        exact bodyPost_ret (v := .bool false) (by simp [results, Tryz.results103, go_sem]) rfl ⟨by rw [unhide HR2, he, beq_eq_false_iff_ne.2 hi]; rfl, bal (bal (brf w) _) _⟩
  · rw [hreg] at HR
    have HR2 : Hid (RR = (plB it 2 && plB ck l1)) := hide (by rw [unhide HR]; rfl)
    clear HR
    have H1 := hide (fun V => iPlace it 2 V)
    have H2 := hide (fun V => iPlace ck l1 V)
    change Hid (RR = ((decide (0 ≤ it) && decide (it < ((2 : Nat) : Int))) && (decide (0 ≤ ck) && decide (ck < (l1 : Int))))) at HR2
    change Hid (∀ V, Calls Tryz.prog 56 #[.int .i64 it, .int .i64 ((2 : Nat) : Int)] V fun e w' => e = .returned (.bool (decide (0 ≤ it) && decide (it < ((2 : Nat) : Int)))) ∧ w' = V) at H1
    generalize (decide (0 ≤ it) && decide (it < ((2 : Nat) : Int))) = p1 at *
    generalize (decide (0 ≤ ck) && decide (ck < (l1 : Int))) = p2 at *
    cases p1
    · go_enter Tryz.func103, Tryz.ntmps103
      go_wp2_with fail
      refine (unhide H1 _).mono ?_
      rintro e W1 ⟨rfl, h⟩
      have h' := h.symm
      subst h'
      go_wp2_with fail
      exact bodyPost_ret (v := .bool false) (by simp [results, Tryz.results103, go_sem]) rfl ⟨by rw [unhide HR2]; rfl, bal (bal (brf w) _) _⟩
    · go_enter Tryz.func103, Tryz.ntmps103
      go_wp2_with fail
      refine (unhide H1 _).mono ?_
      rintro e W1 ⟨rfl, h⟩
      have h' := h.symm
      subst h'
      go_wp2_with fail
      refine (unhide H2 _).mono ?_
      rintro e W1 ⟨rfl, h⟩
      have h' := h.symm
      subst h'
      go_wp2_with fail
      exact bodyPost_ret (v := .bool p2) (by simp [results, Tryz.results103, go_sem]) rfl ⟨by rw [unhide HR2]; rfl, bal (bal (brf w) _) _⟩
end Go.Proofs.YtlldfaniddbjaaaGreatDoor
namespace Go.Proofs.YtlldfaniddbjaaaGreatDoor
open Go Go.RowKit Gs
set_option linter.unusedVariables false
set_option linter.unusedSimpArgs false
set_option maxRecDepth 100000
/-- The numbers of those of the first k blocks that have a register, or have none. -/
def numsB (bs : List Block) (r : Bool) : Nat → List Int
  | 0 => []
  | k + 1 => numsB bs r k ++ if ((bs.getD k blk0).reg == r) = true then [(k : Int)] else []
theorem numsB_len (bs : List Block) (r : Bool) : ∀ k, (numsB bs r k).length ≤ k
  | 0 => Nat.le_refl _
  | k + 1 => by
    have := numsB_len bs r k
    rw [numsB, List.length_append]
    split <;> simp <;> omega
theorem numsB_mem (bs : List Block) (r : Bool) : ∀ (k : Nat) (x : Int), x ∈ numsB bs r k → ∃ i : Nat, x = (i : Int) ∧ i < k ∧ (bs.getD i blk0).reg = r
  | 0, x, h => by simp [numsB] at h
  | k + 1, x, h => by
    rw [numsB, List.mem_append] at h
    rcases h with h | h
    · obtain ⟨i, h1, h2, h3⟩ := numsB_mem bs r k x h
      exact ⟨i, h1, by omega, h3⟩
    · split at h
      · rename_i hr
        simp at h
        exact ⟨k, h, by omega, by simpa using hr⟩
      · simp at h
theorem numsB_names (bs : List Block) (g : Int → ByteArray) (hg : ∀ (i : Nat) b, bs[i]? = some b → g (i : Int) = b.name) : ∀ k, k ≤ bs.length → (numsB bs true k).map g = ((bs.take k).filter (·.reg)).map (·.name)
  | 0, _ => rfl
  | k + 1, h => by
    have hx : bs[k]? = some bs[k] := List.getElem?_eq_getElem (by omega)
    rw [numsB, List.map_append, numsB_names bs g hg k (by omega), List.take_add_one, hx, List.filter_append, List.map_append, show bs.getD k blk0 = bs[k] by rw [List.getD_eq_getElem?_getD, hx]; rfl]
    congr 1
    have hgk := hg k _ hx
    generalize bs[k] = b at hgk
    cases hb : b.reg <;> simp [hb, hgk]
set_option maxHeartbeats 3200000 in
theorem iBlocksWith (s0 s1 s2 s3 s4 : Option Addr) (l0 l1 l2 l3 l4 c0 c1 c2 c3 c4 : Nat) (bs : List Block) (r : Bool) (w : World) (hlb : bs.length ≤ 1048576) (h2 : RS 6 RBlock w 0 bs (.slice s2 l2 c2)) :
    Calls Tryz.prog 110 #[.agg #[.slice s0 l0 c0, .slice s1 l1 c1, .slice s2 l2 c2, .slice s3 l3 c3, .slice s4 l4 c4], .bool r] w fun e w' => (∃ v', e = .returned v' ∧ OI w.heap.size w' v' (numsB bs r bs.length)) ∧ Below w.heap.size w w' := by
  have hln : l2 = bs.length := by
    obtain ⟨a, c, hv, _⟩ := h2
    injection hv with e1 e2 e3
  have HCS : Hid (∀ (k : Nat) b, bs[k]? = some b → ∃ b2 o2 a1 m1 d1, s2 = some ⟨b2, o2, none⟩ ∧ l2 ≤ c2 ∧ (∀ j y, [.string b.name, .slice a1 m1 d1, .int .i64 b.table, .bool b.reg, .int .i64 b.init, .int .i64 b.clock][j]? = some y → w.cell? ⟨b2, o2 + k * 6 + j, none⟩ = some y)) := hide (fun k b hk => by
    rcases h2.open with ⟨rfl, _⟩ | ⟨b2, o2, c2', hv, hcc, hnm, _, hcs⟩
    · simp at hk
    injection hv with e1 e2 e3
    obtain ⟨u, hul, hat, v1, hus, hsz, hrs⟩ := hcs k b hk
    obtain ⟨ai, ci, rfl⟩ := hrs.slice
    subst hus
    exact ⟨b2, o2, ai, _, ci, e1, by omega, fun j y hj => hat j y hj⟩)
  clear h2
  rw [← hln]
  have HLN := hide hln
  have hl2 : l2 ≤ 1048576 := by omega
  obtain ⟨i0, hi, hz0, hz1, hz2⟩ := info_parts info3
  clear hln hlb
  have HW := hide (bal (brf w) (.cells #[.slice s0 l0 c0, .slice s1 l1 c1, .slice s2 l2 c2, .slice s3 l3 c3, .slice s4 l4 c4] 37))
  go_enter Tryz.func110, Tryz.ntmps110
  go_wp2
  go_loopw [5, 11] (fun v i wr => ∃ k : Nat, k ≤ l2 ∧ i = .int .i64 k ∧ OI w.heap.size wr v (numsB bs r k) ∧ Below w.heap.size w wr) (fun _ i _ => l2 - (intOf i).toNat)
  case atStart => exact ⟨0, Nat.zero_le _, rfl, OI_nil _ _, unhide HW⟩
  case round =>
    obtain ⟨k, hk, rfl, hown, hb⟩ := hrel
    by_cases hlt : k < l2
    · have hx : bs[k]? = some bs[k] := List.getElem?_eq_getElem (by have := unhide HLN; omega)
      have HST : Hid (numsB bs r (k + 1) = numsB bs r k ++ if (bs[k].reg == r) = true then [(k : Int)] else []) := hide (by
        rw [numsB, show bs.getD k blk0 = bs[k] by rw [List.getD_eq_getElem?_getD, hx]; rfl])
      generalize bs[k] = b at hx HST
      obtain ⟨b2, o2, a1, m1, d1, rfl, hcap, hcell⟩ := unhide HCS k b hx
      have z0 := cell_later hb (hcell 0 _ rfl)
      have z1 := cell_later hb (hcell 1 _ rfl)
      have z2 := cell_later hb (hcell 2 _ rfl)
      have z3 := cell_later hb (hcell 3 _ rfl)
      have z4 := cell_later hb (hcell 4 _ rfl)
      have z5 := cell_later hb (hcell 5 _ rfl)
      simp only [Nat.add_zero] at z0
      have i1 : (0 : Int) ≤ (k : Int) := by omega
      have i2 : (k : Int) < (l2 : Int) := by omega
      have HLEN := hide (numsB_len bs r k)
      have HO := hide (hown.alloc (.cells #[.string b.name, .slice a1 m1 d1, .int .i64 b.table, .bool b.reg, .int .i64 b.init, .int .i64 b.clock] 104))
      have HB := hide (bal hb (.cells #[.string b.name, .slice a1 m1 d1, .int .i64 b.table, .bool b.reg, .int .i64 b.init, .int .i64 b.clock] 104))
      have HSZ := hide hb.size
      clear hown hb hcell hx HCS
      generalize b.name = x0 at *
      generalize b.table = x2 at *
      generalize b.init = x4 at *
      generalize b.clock = x5 at *
      generalize b.reg = x3 at *
      generalize numsB bs r k = ns at *
      by_cases hr : x3 = r
      · subst hr
        go_wp2_with (first
          | (at_builtin; refine wpList_append_own _ rfl _ _ 29 rfl w.heap.size 3 i0 (.int .i64 0) 1 8 Tryz.underlying29 hi hz0 hz1 hz2 rfl (by decide) _ _ _ rfl (OI.alloc (unhide HO) _) ⟨wr.heap.size + 1, 0, none⟩ 1 1 [.int .i64 (k : Int)] rfl rfl (newI _ _ _ (by simp)) (oneI _) (by have := unhide HLEN; unfold maxLen; omega) (by have := unhide HLEN; omega) (by have := unhide HSZ; simp; omega) ?_; intro v' w2 hown' hgrow _))
        have R1 : OI w.heap.size w2 v' (ns ++ [(k : Int)]) := OI.step hown'
        have R2 := below_grown (bal (unhide HB) (.cells #[.int .i64 (k : Int)] 3)) hgrow (by have := unhide HSZ; simp; omega) ((unhide HO).row)
        go_roundw
        case rel => exact ⟨k + 1, by omega, by go_num, by rw [unhide HST]; simpa using R1, R2⟩
        case measure => simp [intOf]; omega
      · have hr2 : (x3 == r) = false := by simpa using hr
        go_wp2
        go_roundw
        case rel => exact ⟨k + 1, by omega, by go_num, by rw [unhide HST, hr2]; simpa using unhide HO, unhide HB⟩
        case measure => simp [intOf]; omega
    · obtain rfl : k = l2 := by omega
      have HO := hide hown
      have HB := hide hb
      clear hown hb HCS
      go_wp2
      exact bodyPost_ret (v := u5) (by simp [results, Tryz.results110, go_sem]) rfl ⟨⟨_, rfl, unhide HO⟩, unhide HB⟩
end Go.Proofs.YtlldfaniddbjaaaGreatDoor
namespace Go.Proofs.YtlldfaniddbjaaaGreatDoor
open Go.RowKit Gs
set_option linter.unusedVariables false
set_option maxRecDepth 100000
set_option maxHeartbeats 1600000 in
theorem iToldPortS (nm : ByteArray) (z1 : Int) (w : World) : Calls Tryz.prog 105 #[.agg #[.string nm, .int .i64 z1]] w fun e w' => e = .returned (.string nm) ∧ Below w.heap.size w w' := by
  go_enter Tryz.func105, Tryz.ntmps105
  go_wp2
  exact bodyPost_ret (v := .string nm) (by simp [results, Tryz.results105, go_sem]) rfl ⟨rfl, bal (brf w) _⟩
set_option maxHeartbeats 1600000 in
theorem iListPortS (xs : List Port) (v : Value) (w : World) (hl : xs.length ≤ 1048576) (hr : RS 2 RPort w 0 xs v) :
    Calls Tryz.prog 111 #[v, .func (.func 105) #[] #[]] w fun e w' => (∃ v', e = .returned v' ∧ OS w.heap.size w' v' (xs.map (·.name))) ∧ Below w.heap.size w w' := by
  rcases hr.open with ⟨rfl, a, c, rfl⟩ | ⟨b, o, c, rfl, hc, hn, _, hcs⟩
  · clear hr
    go_enter Tryz.func111, Tryz.ntmps111
    go_wp2
    refine wp_loop_rounds 1 ?_
    rw [rounds_succ]
    go_wp2
    exact bodyPost_ret (v := .slice none 0 0) (by simp [results, Tryz.results111, go_sem]) rfl ⟨⟨_, rfl, OS_nil _ _⟩, brf _⟩
  · unfold maxLen at hn
    have HC := hide hcs
    clear hcs hr
    obtain ⟨i0, hi, hz0, hz1, hz2⟩ := info_parts info9
    go_enter Tryz.func111, Tryz.ntmps111
    go_wp2
    go_loopw [5, 10] (fun v i wr => ∃ k : Nat, k ≤ xs.length ∧ i = .int .i64 k ∧ OS w.heap.size wr v ((xs.take k).map (·.name)) ∧ Below w.heap.size w wr) (fun _ i _ => xs.length - (intOf i).toNat)
    case atStart => exact ⟨0, Nat.zero_le _, rfl, OS_nil _ _, brf _⟩
    case round =>
      obtain ⟨k, hk, rfl, hown, hb⟩ := hrel
      by_cases hlt : k < xs.length
      · have hx : xs[k]? = some xs[k] := List.getElem?_eq_getElem hlt
        have hst : (xs.take (k + 1)).map (fun x : Port => x.name) = (xs.take k).map (fun x : Port => x.name) ++ [xs[k].name] := by
          rw [List.take_add_one, hx, List.map_append]; rfl
        have hlen : ((xs.take k).map (fun x : Port => x.name)).length = k := by rw [List.length_map, List.length_take]; omega
        generalize xs[k] = x at hx hst
        obtain ⟨u, hul, hat, hrx⟩ := unhide HC k x hx
        unfold RPort at hrx
        obtain ⟨rfl, hbn⟩ := hrx
        have k0 := cell_later hb (hat.get (j := 0) rfl)
        have k1 := cell_later hb (hat.get (j := 1) rfl)
        simp only [Nat.add_zero] at k0
        have hsz := hb.size
        have HB := hide hb
        have HST := hide hst
        have HO := hide hown
        have HLEN := hide hlen
        have HSZ := hide hsz
        have HN := hide hbn
        clear hb hat hul HC hst hown hlen hsz hbn
        generalize hnm : x.name = nm at *
        generalize hq1 : x.src = z1 at *
        go_wp2_with (first
          | (go_at_call 105; refine (iToldPortS nm z1 _).mono ?_; rintro e W1 ⟨rfl, hb1⟩; have HO1 := hide ((unhide HO).later (btr (bal (brf wr) _) hb1)); have HB1 := hide (btr (bal (unhide HB) _) hb1); clear hb1)
          | (at_builtin; refine wpList_append_own _ rfl _ _ 22 rfl w.heap.size 9 i0 (.string ByteArray.empty) 1 16 Tryz.underlying22 hi hz0 hz1 hz2 rfl (by decide) _ _ _ rfl ((unhide HO1).1.alloc _) ⟨W1.heap.size, 0, none⟩ 1 1 [.string nm] rfl rfl (newS _ _ _ rfl) (oneS _) (by have := unhide HLEN; unfold maxLen; omega) (by have := unhide HLEN; omega) (by have := (unhide HB1).size; simp; omega) ?_; intro v' w2 hown' hgrow _)
          | go_in)
        have R1 : OS w.heap.size w2 v' ((xs.take (k + 1)).map (fun x : Port => x.name)) := by
          rw [unhide HST]; exact OS.step hown' (unhide HO1).2 (unhide HN)
        have R2 := below_grown (bal (unhide HB1) (.cells #[.string nm] 9)) hgrow (by have := (unhide HB1).size; simp; omega) (own_row (unhide HO1).1)
        go_roundw
        case rel => exact ⟨k + 1, by omega, by go_num, R1, R2⟩
        case measure => simp [intOf]; omega
      · obtain rfl : k = xs.length := by omega
        rw [List.take_of_length_le (Nat.le_refl _)] at hown
        have HO := hide hown
        have HB := hide hb
        clear hown hb HC
        go_wp2
        exact bodyPost_ret (v := u5) (by simp [results, Tryz.results111, go_sem]) rfl ⟨⟨_, rfl, unhide HO⟩, unhide HB⟩
end Go.Proofs.YtlldfaniddbjaaaGreatDoor
namespace Go.Proofs.YtlldfaniddbjaaaGreatDoor
open Go Go.RowKit Gs
set_option linter.unusedVariables false
set_option linter.unusedSimpArgs false
set_option maxRecDepth 100000
/-- A block's name, by its number. -/
def nameN (bs : List Block) (x : Int) : ByteArray := (bs.getD x.toNat blk0).name
theorem nameN_at {bs : List Block} {i : Nat} {b : Block} (h : bs[i]? = some b) : nameN bs (i : Int) = b.name := by
  unfold nameN
  rw [Int.toNat_natCast, List.getD_eq_getElem?_getD, h]; rfl
set_option maxHeartbeats 1600000 in
theorem iToldName (p b2 o2 l2 c2 k : Nat) (nm : ByteArray) (w : World) (hk : k < l2) (hc : l2 ≤ c2) (hp : w.cell? ⟨p, 2, none⟩ = some (.slice (some ⟨b2, o2, none⟩) l2 c2)) (h0 : w.cell? ⟨b2, o2 + k * 6, none⟩ = some (.string nm)) (hl2 : l2 ≤ 1048576) :
    Calls Tryz.prog 106 #[.int .i64 (k : Int), .pointer (some ⟨p, 0, none⟩)] w fun e w' => e = .returned (.string nm) ∧ Below w.heap.size w w' := by
  have i1 : (0 : Int) ≤ (k : Int) := by omega
  have i2 : (k : Int) < (l2 : Int) := by omega
  go_enter Tryz.func106, Tryz.ntmps106
  go_wp2
  exact bodyPost_ret (v := .string nm) (by simp [results, Tryz.results106, go_sem]) rfl ⟨rfl, brf _⟩
set_option maxHeartbeats 1600000 in
theorem iListNames (p : Nat) (g : Int → ByteArray) (xs : List Int) (v : Value) (w : World) (hl : xs.length ≤ 1048576) (hr : RS 1 RInt w 0 xs v) (HT : Hid (∀ x ∈ xs, (g x).size ≤ maxLen ∧ ∀ V, Below w.heap.size w V → Calls Tryz.prog 106 #[.int .i64 x, .pointer (some ⟨p, 0, none⟩)] V fun e w' => e = .returned (.string (g x)) ∧ Below V.heap.size V w')) :
    Calls Tryz.prog 109 #[v, .func (.func 106) #[] #[.pointer (some ⟨p, 0, none⟩)]] w fun e w' => (∃ v', e = .returned v' ∧ OS w.heap.size w' v' (xs.map g)) ∧ Below w.heap.size w w' := by
  rcases hr.open with ⟨rfl, a, c, rfl⟩ | ⟨b, o, c, rfl, hc, hn, _, hcs⟩
  · clear hr
    go_enter Tryz.func109, Tryz.ntmps109
    go_wp2
    refine wp_loop_rounds 1 ?_
    rw [rounds_succ]
    go_wp2
    exact bodyPost_ret (v := .slice none 0 0) (by simp [results, Tryz.results109, go_sem]) rfl ⟨⟨_, rfl, OS_nil _ _⟩, brf _⟩
  · unfold maxLen at hn
    have HC := hide hcs
    clear hcs hr
    obtain ⟨i0, hi, hz0, hz1, hz2⟩ := info_parts info9
    go_enter Tryz.func109, Tryz.ntmps109
    go_wp2
    go_loopw [5, 10] (fun v i wr => ∃ k : Nat, k ≤ xs.length ∧ i = .int .i64 k ∧ OS w.heap.size wr v ((xs.take k).map g) ∧ Below w.heap.size w wr) (fun _ i _ => xs.length - (intOf i).toNat)
    case atStart => exact ⟨0, Nat.zero_le _, rfl, OS_nil _ _, brf _⟩
    case round =>
      obtain ⟨k, hk, rfl, hown, hb⟩ := hrel
      by_cases hlt : k < xs.length
      · have hx : xs[k]? = some xs[k] := List.getElem?_eq_getElem hlt
        have hst : (xs.take (k + 1)).map g = (xs.take k).map g ++ [g xs[k]] := by
          rw [List.take_add_one, hx, List.map_append]; rfl
        have hlen : ((xs.take k).map g).length = k := by rw [List.length_map, List.length_take]; omega
        have HTX := hide (fun V hV => ((unhide HT) xs[k] (List.getElem_mem hlt)).2 V hV)
        have hbn := ((unhide HT) xs[k] (List.getElem_mem hlt)).1
        generalize xs[k] = x at hx hst HTX hbn
        obtain ⟨u, hul, hat, hrx⟩ := unhide HC k x hx
        unfold RInt at hrx
        subst hrx
        have k0 := cell_later hb (hat.get (j := 0) rfl)
        simp only [Nat.add_zero, Nat.mul_one] at k0
        have i1 : (0 : Int) ≤ (k : Int) := by omega
        have i2 : (k : Int) < (xs.length : Int) := by omega
        have hsz := hb.size
        have HB := hide hb
        have HST := hide hst
        have HO := hide hown
        have HLEN := hide hlen
        have HSZ := hide hsz
        have HN := hide hbn
        clear hb hat hul HC hst hown hlen hsz hbn
        generalize hnm : g x = nm at *
        go_wp2_with (first
          | (go_at_call 106; refine (unhide HTX _ (unhide HB)).mono ?_; rintro e W1 ⟨rfl, hb1⟩; have HO1 := hide ((unhide HO).later hb1); have HB1 := hide (btr (unhide HB) hb1); clear hb1)
          | (at_builtin; refine wpList_append_own _ rfl _ _ 22 rfl w.heap.size 9 i0 (.string ByteArray.empty) 1 16 Tryz.underlying22 hi hz0 hz1 hz2 rfl (by decide) _ _ _ rfl ((unhide HO1).1.alloc _) ⟨W1.heap.size, 0, none⟩ 1 1 [.string nm] rfl rfl (newS _ _ _ rfl) (oneS _) (by have := unhide HLEN; unfold maxLen; omega) (by have := unhide HLEN; omega) (by have := (unhide HB1).size; simp; omega) ?_; intro v' w2 hown' hgrow _)
)
        have R1 : OS w.heap.size w2 v' ((xs.take (k + 1)).map g) := by
          rw [unhide HST]; exact OS.step hown' (unhide HO1).2 (unhide HN)
        have R2 := below_grown (bal (unhide HB1) (.cells #[.string nm] 9)) hgrow (by have := (unhide HB1).size; simp; omega) (own_row (unhide HO1).1)
        go_roundw
        case rel => exact ⟨k + 1, by omega, by go_num, R1, R2⟩
        case measure => simp [intOf]; omega
      · obtain rfl : k = xs.length := by omega
        rw [List.take_of_length_le (Nat.le_refl _)] at hown
        have HO := hide hown
        have HB := hide hb
        clear hown hb HC
        go_wp2
        exact bodyPost_ret (v := u5) (by simp [results, Tryz.results109, go_sem]) rfl ⟨⟨_, rfl, unhide HO⟩, unhide HB⟩

end Go.Proofs.YtlldfaniddbjaaaGreatDoor
namespace Go.Proofs.YtlldfaniddbjaaaGreatDoor
open Go Go.RowKit Gs
set_option linter.unusedVariables false
set_option linter.unusedSimpArgs false
set_option maxRecDepth 100000
set_option maxHeartbeats 8000000 in
theorem iAhead (s0 s1 s2 s3 s4 : Option Addr) (l0 l1 l2 l3 l4 c0 c1 c2 c3 c4 : Nat) (bs : List Block) (k : Nat) (b : Block) (hk : bs[k]? = some b) (w : World) (hl0 : l0 ≤ 1048576) (hlb : bs.length ≤ 1048576) (hlen : b.inp.length ≤ 4) (hin : ∀ x ∈ b.inp, 0 ≤ x ∧ x < ((l0 + bs.length : Nat) : Int)) (h2 : RS 6 RBlock w 0 bs (.slice s2 l2 c2)) :
    Calls Tryz.prog 104 #[.agg #[.slice s0 l0 c0, .slice s1 l1 c1, .slice s2 l2 c2, .slice s3 l3 c3, .slice s4 l4 c4], .int .i64 (k : Int)] w fun e w' => e = .returned (.bool (aheadB l0 bs k b.inp)) ∧ Below w.heap.size w w' := by
  have hkl : k < bs.length := (List.getElem?_eq_some_iff.1 hk).1
  rcases h2.open with ⟨rfl, _⟩ | ⟨b2, o2, c2', hv, hcc, hnm, _, hcs⟩
  · simp at hk
  injection hv with e1 e2 e3
  subst e1 e2 e3
  have HREG : Hid (∀ (i : Nat) x, bs[i]? = some x → w.cell? ⟨b2, o2 + i * 6 + 3, none⟩ = some (.bool x.reg)) := hide (fun i x hx => by
    obtain ⟨u, hul, hat, v1, hus, _, _⟩ := hcs i x hx
    subst hus
    exact hat.get (j := 3) rfl)
  obtain ⟨u, hul, hat, v1, hus, _, hrs⟩ := hcs k b hk
  subst hus
  have k1 := hat.get (j := 1) rfl
  obtain ⟨ai, ci, rfl⟩ := hrs.slice
  have HI : Hid (∀ (j : Nat) x, b.inp[j]? = some x → ∃ bb oo, ai = some ⟨bb, oo, none⟩ ∧ w.cell? ⟨bb, oo + j, none⟩ = some (.int .i64 x) ∧ b.inp.length ≤ ci) := hide (fun j x hx => by
    rcases hrs.open with ⟨e, _⟩ | ⟨bb, oo, cc, hv, hcc, _, _, hci⟩
    · rw [e] at hx; simp at hx
    · injection hv with e1 e2 e3
      obtain ⟨u, hul, hat, hus⟩ := hci j x hx
      subst hus
      refine ⟨bb, oo, e1, ?_, by omega⟩
      simpa using hat.get (j := 0) rfl)
  have HIN := hide hin
  have HR : Hid (aheadB l0 bs k b.inp = b.inp.all (ahB l0 bs k)) := hide rfl
  generalize aheadB l0 bs k b.inp = RR at *
  generalize hxs : b.inp = xs at *
  clear hrs hcs hat hul h2 hcc hxs hk
  obtain ⟨L, hL⟩ : ∃ L, xs.length = L := ⟨_, rfl⟩
  have HL := hide hL
  rw [hL] at k1 hlen
  clear hL
  obtain ⟨N, hN⟩ : ∃ N, bs.length = N := ⟨_, rfl⟩
  have HN := hide hN
  rw [hN] at HIN hkl hlb hnm ⊢
  clear hN hin
  have i1 : (0 : Int) ≤ (k : Int) := by omega
  have i2 : (k : Int) < (N : Int) := by omega
  have HBW := hide (bal (brf w) (.cells #[.slice s0 l0 c0, .slice s1 l1 c1, .slice (some ⟨b2, o2, none⟩) N c2, .slice s3 l3 c3, .slice s4 l4 c4] 37))
  have HU : Hid (∀ b o v, w.cell? ⟨b, o, none⟩ = some v → (w.alloc (.cells #[.slice s0 l0 c0, .slice s1 l1 c1, .slice (some ⟨b2, o2, none⟩) N c2, .slice s3 l3 c3, .slice s4 l4 c4] 37)).cell? ⟨b, o, none⟩ = some v) := hide (fun b o v h => cell_later (bal (brf w) _) h)
  replace k1 := unhide HU _ _ _ k1
  go_enter Tryz.func104, Tryz.ntmps104
  go_wp2
  go_loop [15] (fun i => ∃ j : Nat, j ≤ L ∧ i = .int .i64 j ∧ (xs.take j).all (ahB l0 bs k) = true) (fun i => L - (intOf i).toNat)
  case atStart => exact ⟨0, Nat.zero_le _, rfl, rfl⟩
  case round =>
    obtain ⟨j, hj, rfl, hall⟩ := hrel
    have HA := hide hall
    clear hall
    by_cases hlt : j < L
    · have hjl : j < xs.length := by have := unhide HL; omega
      have hx : xs[j]? = some xs[j] := List.getElem?_eq_getElem hjl
      have hm := unhide HIN xs[j] (List.getElem_mem hjl)
      generalize xs[j] = x at hx hm
      have HST := hide (show (xs.take (j + 1)).all (ahB l0 bs k) = ((xs.take j).all (ahB l0 bs k) && ahB l0 bs k x) by rw [List.take_add_one, hx, List.all_append]; simp)
      have HF : Hid (ahB l0 bs k x = false → RR = false) := hide (fun h => by rw [unhide HR, ← Bool.not_eq_true]; intro e; rw [List.all_eq_true.1 e x (List.mem_of_getElem? hx)] at h; cases h)
      obtain ⟨bb, oo, rfl, k0, hcx⟩ := unhide HI j x hx
      replace k0 := unhide HU _ _ _ k0
      have j1 : (0 : Int) ≤ (j : Int) := by omega
      have j2 : (j : Int) < (L : Int) := by omega
      by_cases hrd : (k : Int) ≤ x - (l0 : Int)
      · obtain ⟨r, hr⟩ : ∃ r : Nat, x - (l0 : Int) = (r : Int) := ⟨(x - (l0 : Int)).toNat, by omega⟩
        have hrN : r < bs.length := by have := unhide HN; omega
        have hbr : bs[r]? = some bs[r] := List.getElem?_eq_getElem hrN
        have HAB : Hid (ahB l0 bs k x = bs[r].reg) := hide (by
          unfold ahB
          rw [hr, decide_eq_true (by omega), Int.toNat_natCast, show bs.getD r blk0 = bs[r] by rw [List.getD_eq_getElem?_getD, hbr]; rfl]
          rfl)
        have k3 := unhide HU _ _ _ (unhide HREG r _ hbr)
        generalize bs[r] = br at hbr HAB k3
        have r1 : (0 : Int) ≤ (r : Int) := by omega
        have r2 : (r : Int) < (N : Int) := by have := unhide HN; omega
        have r3 : (k : Int) ≤ (r : Int) := by omega
        clear hx hm hjl hcx hrN hbr hrd HI HREG HIN
        generalize ahB l0 bs k x = p at *
        generalize br.reg = q at *
        cases q
        · go_wp2
          exact bodyPost_ret (v := .bool false) (by simp [results, Tryz.results104, go_sem]) rfl ⟨by rw [unhide HF (by rw [unhide HAB])], unhide HBW⟩
        · go_wp2
          go_round
          case rel => exact ⟨j + 1, by omega, by go_num, by rw [unhide HST, unhide HA, unhide HAB]; rfl⟩
          case measure => simp [intOf]; omega
      · have HAB : Hid (ahB l0 bs k x = true) := hide (by
          unfold ahB
          rw [decide_eq_false hrd]
          rfl)
        have hrd' : decide ((k : Int) ≤ x - (l0 : Int)) = false := decide_eq_false hrd
        clear hx hjl hcx HI HREG HIN
        generalize ahB l0 bs k x = p at *
        go_wp2
        go_round
        case rel => exact ⟨j + 1, by omega, by go_num, by rw [unhide HST, unhide HA, unhide HAB]; rfl⟩
        case measure => simp [intOf]; omega
    · obtain rfl : j = L := by omega
      clear HI HREG HIN
      go_wp2
      refine bodyPost_ret (v := .bool true) (by simp [results, Tryz.results104, go_sem]) rfl ⟨ret_bool ?_, unhide HBW⟩
      have h := unhide HA
      rw [List.take_of_length_le (by have := unhide HL; omega)] at h
      rw [unhide HR, h]
end Go.Proofs.YtlldfaniddbjaaaGreatDoor
