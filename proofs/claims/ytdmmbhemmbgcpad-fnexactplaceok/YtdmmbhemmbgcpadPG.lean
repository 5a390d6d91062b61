/- blocksWith: the numbers of the blocks with a register, or of those without. -/
import Derived.Test.YtdmmbhemmbgcpadRR
import Derived.Test.YtdmmbhemmbgcpadPB
namespace Go.Proofs.Ytdmmbhemmbgcpad
open Go Go.RowKit Gs
set_option linter.unusedVariables false
set_option linter.unusedSimpArgs false
set_option maxRecDepth 100000
/-- The numbers of those of the first k blocks that have a register, or have none. -/
def numsB (bs : List Block) (r : Bool) : Nat → List Int
  | 0 => []
  | k + 1 => numsB bs r k ++ if ((bs.getD k blk0).reg == r) = true then [(k : Int)] else []
theorem numsB_len (bs : List Block) (r : Bool) : ∀ k, (numsB bs r k).length ≤ k
  | 0 => Nat.le_refl _
  | k + 1 => by
    have := numsB_len bs r k
    rw [numsB, List.length_append]
    split <;> simp <;> omega
theorem numsB_mem (bs : List Block) (r : Bool) : ∀ (k : Nat) (x : Int), x ∈ numsB bs r k → ∃ i : Nat, x = (i : Int) ∧ i < k ∧ (bs.getD i blk0).reg = r
  | 0, x, h => by simp [numsB] at h
  | k + 1, x, h => by
    rw [numsB, List.mem_append] at h
    rcases h with h | h
    · obtain ⟨i, h1, h2, h3⟩ := numsB_mem bs r k x h
      exact ⟨i, h1, by omega, h3⟩
    · split at h
      · rename_i hr
        simp at h
        exact ⟨k, h, by omega, by simpa using hr⟩
      · simp at h
theorem numsB_names (bs : List Block) (g : Int → ByteArray) (hg : ∀ (i : Nat) b, bs[i]? = some b → g (i : Int) = b.name) : ∀ k, k ≤ bs.length → (numsB bs true k).map g = ((bs.take k).filter (·.reg)).map (·.name)
  | 0, _ => rfl
  | k + 1, h => by
    have hx : bs[k]? = some bs[k] := List.getElem?_eq_getElem (by omega)
    rw [numsB, List.map_append, numsB_names bs g hg k (by omega), List.take_add_one, hx, List.filter_append, List.map_append, show bs.getD k blk0 = bs[k] by rw [List.getD_eq_getElem?_getD, hx]; rfl]
    congr 1
    have hgk := hg k _ hx
    generalize bs[k] = b at hgk
    cases hb : b.reg <;> simp [hb, hgk]
set_option maxHeartbeats 3200000 in
theorem iBlocksWith (s0 s1 s2 s3 s4 : Option Addr) (l0 l1 l2 l3 l4 c0 c1 c2 c3 c4 : Nat) (bs : List Block) (r : Bool) (w : World) (hlb : bs.length ≤ 1048576) (h2 : RS 6 RBlock w 0 bs (.slice s2 l2 c2)) :
    Calls Try.prog 58 #[.agg #[.slice s0 l0 c0, .slice s1 l1 c1, .slice s2 l2 c2, .slice s3 l3 c3, .slice s4 l4 c4], .bool r] w fun e w' => (∃ v', e = .returned v' ∧ OI w.heap.size w' v' (numsB bs r bs.length)) ∧ Below w.heap.size w w' := by
  have hln : l2 = bs.length := by
    obtain ⟨a, c, hv, _⟩ := h2
    injection hv with e1 e2 e3
  have HCS : Hid (∀ (k : Nat) b, bs[k]? = some b → ∃ b2 o2 a1 m1 d1, s2 = some ⟨b2, o2, none⟩ ∧ l2 ≤ c2 ∧ (∀ j y, [.string b.name, .slice a1 m1 d1, .int .i64 b.table, .bool b.reg, .int .i64 b.init, .int .i64 b.clock][j]? = some y → w.cell? ⟨b2, o2 + k * 6 + j, none⟩ = some y)) := hide (fun k b hk => by
    rcases h2.open with ⟨rfl, _⟩ | ⟨b2, o2, c2', hv, hcc, hnm, _, hcs⟩
    · simp at hk
    injection hv with e1 e2 e3
    obtain ⟨u, hul, hat, v1, hus, hsz, hrs⟩ := hcs k b hk
    obtain ⟨ai, ci, rfl⟩ := hrs.slice
    subst hus
    exact ⟨b2, o2, ai, _, ci, e1, by omega, fun j y hj => hat j y hj⟩)
  clear h2
  rw [← hln]
  have HLN := hide hln
  have hl2 : l2 ≤ 1048576 := by omega
  obtain ⟨i0, hi, hz0, hz1, hz2⟩ := info_parts info3
  clear hln hlb
  have HW := hide (bal (brf w) (.cells #[.slice s0 l0 c0, .slice s1 l1 c1, .slice s2 l2 c2, .slice s3 l3 c3, .slice s4 l4 c4] 35))
  go_enter Try.func58, Try.ntmps58
  go_wp2
  go_loopw [5, 11] (fun v i wr => ∃ k : Nat, k ≤ l2 ∧ i = .int .i64 k ∧ OI w.heap.size wr v (numsB bs r k) ∧ Below w.heap.size w wr) (fun _ i _ => l2 - (intOf i).toNat)
  case atStart => exact ⟨0, Nat.zero_le _, rfl, OI_nil _ _, unhide HW⟩
  case round =>
    obtain ⟨k, hk, rfl, hown, hb⟩ := hrel
    by_cases hlt : k < l2
    · have hx : bs[k]? = some bs[k] := List.getElem?_eq_getElem (by have := unhide HLN; omega)
      have HST : Hid (numsB bs r (k + 1) = numsB bs r k ++ if (bs[k].reg == r) = true then [(k : Int)] else []) := hide (by
        rw [numsB, show bs.getD k blk0 = bs[k] by rw [List.getD_eq_getElem?_getD, hx]; rfl])
      generalize bs[k] = b at hx HST
      obtain ⟨b2, o2, a1, m1, d1, rfl, hcap, hcell⟩ := unhide HCS k b hx
      have z0 := cell_later hb (hcell 0 _ rfl)
      have z1 := cell_later hb (hcell 1 _ rfl)
      have z2 := cell_later hb (hcell 2 _ rfl)
      have z3 := cell_later hb (hcell 3 _ rfl)
      have z4 := cell_later hb (hcell 4 _ rfl)
      have z5 := cell_later hb (hcell 5 _ rfl)
      simp only [Nat.add_zero] at z0
      have i1 : (0 : Int) ≤ (k : Int) := by omega
      have i2 : (k : Int) < (l2 : Int) := by omega
      have HLEN := hide (numsB_len bs r k)
      have HO := hide (hown.alloc (.cells #[.string b.name, .slice a1 m1 d1, .int .i64 b.table, .bool b.reg, .int .i64 b.init, .int .i64 b.clock] 67))
      have HB := hide (bal hb (.cells #[.string b.name, .slice a1 m1 d1, .int .i64 b.table, .bool b.reg, .int .i64 b.init, .int .i64 b.clock] 67))
      have HSZ := hide hb.size
      clear hown hb hcell hx HCS
      generalize b.name = x0 at *
      generalize b.table = x2 at *
      generalize b.init = x4 at *
      generalize b.clock = x5 at *
      generalize b.reg = x3 at *
      generalize numsB bs r k = ns at *
      by_cases hr : x3 = r
      · subst hr
        go_wp2_with (first
          | (at_builtin; refine wpList_append_own _ rfl _ _ 29 rfl w.heap.size 3 i0 (.int .i64 0) 1 8 Try.underlying29 hi hz0 hz1 hz2 rfl (by decide) _ _ _ rfl (OI.alloc (unhide HO) _) ⟨wr.heap.size + 1, 0, none⟩ 1 1 [.int .i64 (k : Int)] rfl rfl (newI _ _ _ (by simp)) (oneI _) (by have := unhide HLEN; unfold maxLen; omega) (by have := unhide HLEN; omega) (by have := unhide HSZ; simp; omega) ?_; intro v' w2 hown' hgrow _))
        have R1 : OI w.heap.size w2 v' (ns ++ [(k : Int)]) := OI.step hown'
        have R2 := below_grown (bal (unhide HB) (.cells #[.int .i64 (k : Int)] 3)) hgrow (by have := unhide HSZ; simp; omega) ((unhide HO).row)
        go_roundw
        case rel => exact ⟨k + 1, by omega, by go_num, by rw [unhide HST]; simpa using R1, R2⟩
        case measure => simp [intOf]; omega
      · have hr2 : (x3 == r) = false := by simpa using hr
        go_wp2
        go_roundw
        case rel => exact ⟨k + 1, by omega, by go_num, by rw [unhide HST, hr2]; simpa using unhide HO, unhide HB⟩
        case measure => simp [intOf]; omega
    · obtain rfl : k = l2 := by omega
      have HO := hide hown
      have HB := hide hb
      clear hown hb HCS
      go_wp2
      exact bodyPost_ret (v := u5) (by simp [results, Try.results58, go_sem]) rfl ⟨⟨_, rfl, unhide HO⟩, unhide HB⟩
end Go.Proofs.Ytdmmbhemmbgcpad
