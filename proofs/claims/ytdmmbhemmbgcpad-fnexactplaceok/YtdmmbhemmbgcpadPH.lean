/- The names of blocks with a register; namesFit. -/
import Derived.Test.YtdmmbhemmbgcpadPG
import Derived.Test.YtdmmbhemmbgcpadAL
import Derived.Test.YtdmmbhemmbgcpadNF2
namespace Go.Proofs.Ytdmmbhemmbgcpad
open Go Go.RowKit Gs
set_option linter.unusedVariables false
set_option linter.unusedSimpArgs false
set_option maxRecDepth 100000
/-- A block's name, by its number. -/
def nameN (bs : List Block) (x : Int) : ByteArray := (bs.getD x.toNat blk0).name
theorem nameN_at {bs : List Block} {i : Nat} {b : Block} (h : bs[i]? = some b) : nameN bs (i : Int) = b.name := by
  unfold nameN
  rw [Int.toNat_natCast, List.getD_eq_getElem?_getD, h]; rfl
set_option maxHeartbeats 1600000 in
theorem iToldName (p b2 o2 l2 c2 k : Nat) (nm : ByteArray) (w : World) (hk : k < l2) (hc : l2 ≤ c2) (hp : w.cell? ⟨p, 2, none⟩ = some (.slice (some ⟨b2, o2, none⟩) l2 c2)) (h0 : w.cell? ⟨b2, o2 + k * 6, none⟩ = some (.string nm)) (hl2 : l2 ≤ 1048576) :
    Calls Try.prog 54 #[.int .i64 (k : Int), .pointer (some ⟨p, 0, none⟩)] w fun e w' => e = .returned (.string nm) ∧ Below w.heap.size w w' := by
  have i1 : (0 : Int) ≤ (k : Int) := by omega
  have i2 : (k : Int) < (l2 : Int) := by omega
  go_enter Try.func54, Try.ntmps54
  go_wp2
  exact bodyPost_ret (v := .string nm) (by simp [results, Try.results54, go_sem]) rfl ⟨rfl, brf _⟩
set_option maxHeartbeats 1600000 in
theorem iListNames (p : Nat) (g : Int → ByteArray) (xs : List Int) (v : Value) (w : World) (hl : xs.length ≤ 1048576) (hr : RS 1 RInt w 0 xs v) (HT : Hid (∀ x ∈ xs, (g x).size ≤ maxLen ∧ ∀ V, Below w.heap.size w V → Calls Try.prog 54 #[.int .i64 x, .pointer (some ⟨p, 0, none⟩)] V fun e w' => e = .returned (.string (g x)) ∧ Below V.heap.size V w')) :
    Calls Try.prog 57 #[v, .func (.func 54) #[] #[.pointer (some ⟨p, 0, none⟩)]] w fun e w' => (∃ v', e = .returned v' ∧ OS w.heap.size w' v' (xs.map g)) ∧ Below w.heap.size w w' := by
  rcases hr.open with ⟨rfl, a, c, rfl⟩ | ⟨b, o, c, rfl, hc, hn, _, hcs⟩
  · clear hr
    go_enter Try.func57, Try.ntmps57
    go_wp2
    refine wp_loop_rounds 1 ?_
    rw [rounds_succ]
    go_wp2
    exact bodyPost_ret (v := .slice none 0 0) (by simp [results, Try.results57, go_sem]) rfl ⟨⟨_, rfl, OS_nil _ _⟩, brf _⟩
  · unfold maxLen at hn
    have HC := hide hcs
    clear hcs hr
    obtain ⟨i0, hi, hz0, hz1, hz2⟩ := info_parts info9
    go_enter Try.func57, Try.ntmps57
    go_wp2
    go_loopw [5, 10] (fun v i wr => ∃ k : Nat, k ≤ xs.length ∧ i = .int .i64 k ∧ OS w.heap.size wr v ((xs.take k).map g) ∧ Below w.heap.size w wr) (fun _ i _ => xs.length - (intOf i).toNat)
    case atStart => exact ⟨0, Nat.zero_le _, rfl, OS_nil _ _, brf _⟩
    case round =>
      obtain ⟨k, hk, rfl, hown, hb⟩ := hrel
      by_cases hlt : k < xs.length
      · have hx : xs[k]? = some xs[k] := List.getElem?_eq_getElem hlt
        have hst : (xs.take (k + 1)).map g = (xs.take k).map g ++ [g xs[k]] := by
          rw [List.take_add_one, hx, List.map_append]; rfl
        have hlen : ((xs.take k).map g).length = k := by rw [List.length_map, List.length_take]; omega
        have HTX := hide (fun V hV => ((unhide HT) xs[k] (List.getElem_mem hlt)).2 V hV)
        have hbn := ((unhide HT) xs[k] (List.getElem_mem hlt)).1
        generalize xs[k] = x at hx hst HTX hbn
        obtain ⟨u, hul, hat, hrx⟩ := unhide HC k x hx
        unfold RInt at hrx
        subst hrx
        have k0 := cell_later hb (hat.get (j := 0) rfl)
        simp only [Nat.add_zero, Nat.mul_one] at k0
        have i1 : (0 : Int) ≤ (k : Int) := by omega
        have i2 : (k : Int) < (xs.length : Int) := by omega
        have hsz := hb.size
        have HB := hide hb
        have HST := hide hst
        have HO := hide hown
        have HLEN := hide hlen
        have HSZ := hide hsz
        have HN := hide hbn
        clear hb hat hul HC hst hown hlen hsz hbn
        generalize hnm : g x = nm at *
        go_wp2_with (first
          | (go_at_call 54; refine (unhide HTX _ (unhide HB)).mono ?_; rintro e W1 ⟨rfl, hb1⟩; have HO1 := hide ((unhide HO).later hb1); have HB1 := hide (btr (unhide HB) hb1); clear hb1)
          | (at_builtin; refine wpList_append_own _ rfl _ _ 22 rfl w.heap.size 9 i0 (.string ByteArray.empty) 1 16 Try.underlying22 hi hz0 hz1 hz2 rfl (by decide) _ _ _ rfl ((unhide HO1).1.alloc _) ⟨W1.heap.size, 0, none⟩ 1 1 [.string nm] rfl rfl (newS _ _ _ rfl) (oneS _) (by have := unhide HLEN; unfold maxLen; omega) (by have := unhide HLEN; omega) (by have := (unhide HB1).size; simp; omega) ?_; intro v' w2 hown' hgrow _)
)
        have R1 : OS w.heap.size w2 v' ((xs.take (k + 1)).map g) := by
          rw [unhide HST]; exact OS.step hown' (unhide HO1).2 (unhide HN)
        have R2 := below_grown (bal (unhide HB1) (.cells #[.string nm] 9)) hgrow (by have := (unhide HB1).size; simp; omega) (own_row (unhide HO1).1)
        go_roundw
        case rel => exact ⟨k + 1, by omega, by go_num, R1, R2⟩
        case measure => simp [intOf]; omega
      · obtain rfl : k = xs.length := by omega
        rw [List.take_of_length_le (Nat.le_refl _)] at hown
        have HO := hide hown
        have HB := hide hb
        clear hown hb HC
        go_wp2
        exact bodyPost_ret (v := u5) (by simp [results, Try.results57, go_sem]) rfl ⟨⟨_, rfl, unhide HO⟩, unhide HB⟩

end Go.Proofs.Ytdmmbhemmbgcpad
