/- Renumbering: what the numbers have become, in memory; all, ports. -/
import Derived.Test.YtdmmbhemmbgcpabGreatGPC
import Derived.Test.YtdmmbhemmbgcpabGreatGRW4
import Derived.Test.YtdmmbhemmbgcpabGreatGFB
namespace Go.Proofs.YtdmmbhemmbgcpabGreat
open Go Go.RowKit Gs
set_option linter.unusedVariables false
set_option linter.unusedSimpArgs false
set_option maxRecDepth 100000
/-- What the numbers have become lies in the block g. -/
def BE (W : World) (g : Nat) (bl : List Int) : Prop := ∀ (i : Nat) x, bl[i]? = some x → W.cell? ⟨g, i, none⟩ = some (.int .i64 x)
theorem BE.later {W W' : World} {g : Nat} {bl : List Int} (h : BE W g bl) (hb : Below W.heap.size W W') : BE W' g bl := fun i x hx => cell_later hb (h i x hx)
def becF (bl : List Int) (x : Int) : Int := bl.getD x.toNat 0
theorem becF_at {bl : List Int} {x : Nat} (h : x < bl.length) : bl[x]? = some (becF bl (x : Int)) := by
  unfold becF
  rw [Int.toNat_natCast, List.getD_eq_getElem?_getD, List.getElem?_eq_getElem h]; rfl
set_option maxHeartbeats 1600000 in
theorem iAll1 (p g : Nat) (bl : List Int) (x : Int) (w : World) (hM : bl.length ≤ 2097152) (h0 : 0 ≤ x) (h1 : x < (bl.length : Int)) (hp : w.cell? ⟨p, 0, none⟩ = some (.slice (some ⟨g, 0, none⟩) bl.length bl.length)) (hg : BE w g bl) :
    Calls Tryz.prog 99 #[.int .i64 x, .pointer (some ⟨p, 0, none⟩)] w fun e w' => e = .returned (.int .i64 (becF bl x)) ∧ Below w.heap.size w w' := by
  obtain ⟨k, rfl⟩ : ∃ k : Nat, x = (k : Int) := ⟨x.toNat, by omega⟩
  have k0 := hg k _ (becF_at (by omega))
  generalize becF bl (k : Int) = y at *
  obtain ⟨M, hMe⟩ : ∃ M, bl.length = M := ⟨_, rfl⟩
  rw [hMe] at hp h1 hM
  clear hMe hg
  go_enter Tryz.func99, Tryz.ntmps99
  go_wp2
  exact bodyPost_ret (v := .int .i64 y) (by simp [results, Tryz.results99, go_sem]) rfl ⟨rfl, brf _⟩
theorem port_one (nm : ByteArray) (x : Int) : ∀ u ∈ [Value.string nm, Value.int .i64 x], u.oneCell' = true := by
  intro u hu
  simp at hu
  rcases hu with rfl | rfl <;> rfl
theorem newPt (W : World) (nm : ByteArray) (x : Int) (g : Nat) (hg : g = W.heap.size) : ∀ j u, [Value.string nm, Value.int .i64 x][j]? = some u → (W.alloc (.cells #[.string nm, .int .i64 x] 75)).cell? ((⟨g, 0, none⟩ : Addr).add j) = some u := by
  intro j u h
  subst hg
  match j, h with
  | 0, h => simp at h; subst h; simp [Addr.add]
  | 1, h => simp at h; subst h; simp [Addr.add]
  | j + 2, h => simp at h
set_option maxHeartbeats 3200000 in
theorem iPort1 (p g : Nat) (bl : List Int) (nm : ByteArray) (x : Int) (w : World) (hM : bl.length ≤ 2097152) (h0 : 0 ≤ x) (h1 : x < (bl.length : Int)) (hp : w.cell? ⟨p, 0, none⟩ = some (.slice (some ⟨g, 0, none⟩) bl.length bl.length)) (hg : BE w g bl) :
    Calls Tryz.prog 97 #[.agg #[.string nm, .int .i64 x], .pointer (some ⟨p, 0, none⟩)] w fun e w' => e = .returned (.agg #[.string nm, .int .i64 (becF bl x)]) ∧ Below w.heap.size w w' := by
  obtain ⟨k, rfl⟩ : ∃ k : Nat, x = (k : Int) := ⟨x.toNat, by omega⟩
  have k0 := hg k _ (becF_at (by omega))
  generalize becF bl (k : Int) = y at *
  obtain ⟨M, hMe⟩ : ∃ M, bl.length = M := ⟨_, rfl⟩
  rw [hMe] at hp h1 hM
  clear hMe hg
  have i1 : (0 : Int) ≤ (k : Int) := by omega
  have q0 := cell_later (bal (bal (brf w) (.cells #[.string nm, .int .i64 (k : Int)] 75)) (.cells #[.string ⟨#[]⟩, .int .i64 0] 75)) hp
  have q1 := cell_later (bal (bal (brf w) (.cells #[.string nm, .int .i64 (k : Int)] 75)) (.cells #[.string ⟨#[]⟩, .int .i64 0] 75)) k0
  go_enter Tryz.func97, Tryz.ntmps97
  go_wp2
  go_region
  go_wp2
  exact bodyPost_ret (v := .agg #[.string nm, .int .i64 y]) (by simp [results, Tryz.results97, go_sem]) rfl ⟨rfl, bdr (bal (bal (brf w) _) _)⟩
set_option maxHeartbeats 1600000 in
theorem iListInts (p : Nat) (g : Int → Int) (xs : List Int) (v : Value) (w : World) (hl : xs.length ≤ 1048576) (hr : RS 1 RInt w 0 xs v) (HT : Hid (∀ x ∈ xs, ∀ V, Below w.heap.size w V → Calls Tryz.prog 99 #[.int .i64 x, .pointer (some ⟨p, 0, none⟩)] V fun e w' => e = .returned (.int .i64 (g x)) ∧ Below V.heap.size V w')) :
    Calls Tryz.prog 98 #[v, .func (.func 99) #[] #[.pointer (some ⟨p, 0, none⟩)]] w fun e w' => (∃ v', e = .returned v' ∧ OI w.heap.size w' v' (xs.map g)) ∧ Below w.heap.size w w' := by
  rcases hr.open with ⟨rfl, a, c, rfl⟩ | ⟨b, o, c, rfl, hc, hn, _, hcs⟩
  · clear hr
    go_enter Tryz.func98, Tryz.ntmps98
    go_wp2
    refine wp_loop_rounds 1 ?_
    rw [rounds_succ]
    go_wp2
    exact bodyPost_ret (v := .slice none 0 0) (by simp [results, Tryz.results98, go_sem]) rfl ⟨⟨_, rfl, OI_nil _ _⟩, brf _⟩
  · unfold maxLen at hn
    have HC := hide hcs
    clear hcs hr
    obtain ⟨i0, hi, hz0, hz1, hz2⟩ := info_parts info3
    go_enter Tryz.func98, Tryz.ntmps98
    go_wp2
    go_loopw [5, 10] (fun v i wr => ∃ k : Nat, k ≤ xs.length ∧ i = .int .i64 k ∧ OI w.heap.size wr v ((xs.take k).map g) ∧ Below w.heap.size w wr) (fun _ i _ => xs.length - (intOf i).toNat)
    case atStart => exact ⟨0, Nat.zero_le _, rfl, OI_nil _ _, brf _⟩
    case round =>
      obtain ⟨k, hk, rfl, hown, hb⟩ := hrel
      by_cases hlt : k < xs.length
      · have hx : xs[k]? = some xs[k] := List.getElem?_eq_getElem hlt
        have hst : (xs.take (k + 1)).map g = (xs.take k).map g ++ [g xs[k]] := by
          rw [List.take_add_one, hx, List.map_append]; rfl
        have hlen : ((xs.take k).map g).length = k := by rw [List.length_map, List.length_take]; omega
        have HTX := hide (fun V hV => (unhide HT) xs[k] (List.getElem_mem hlt) V hV)
        generalize xs[k] = x at hx hst HTX
        obtain ⟨u, hul, hat, hrx⟩ := unhide HC k x hx
        unfold RInt at hrx
        subst hrx
        have k0 := cell_later hb (hat.get (j := 0) rfl)
        simp only [Nat.add_zero, Nat.mul_one] at k0
        have i1 : (0 : Int) ≤ (k : Int) := by omega
        have i2 : (k : Int) < (xs.length : Int) := by omega
        have hsz := hb.size
        have HB := hide hb
        have HST := hide hst
        have HO := hide hown
        have HLEN := hide hlen
        have HSZ := hide hsz
        clear hb hat hul HC hst hown hlen hsz
        generalize hnm : g x = nm at *
        go_wp2_with (first
          | (go_at_call 99; refine (unhide HTX _ (unhide HB)).mono ?_; rintro e W1 ⟨rfl, hb1⟩; have HO1 := hide ((unhide HO).later hb1); have HB1 := hide (btr (unhide HB) hb1); clear hb1)
          | (at_builtin; refine wpList_append_own _ rfl _ _ 64 rfl w.heap.size 3 i0 (.int .i64 0) 1 8 Tryz.underlying64 hi hz0 hz1 hz2 rfl (by decide) _ _ _ rfl ((unhide HO1).alloc _) ⟨W1.heap.size, 0, none⟩ 1 1 [.int .i64 nm] rfl rfl (newI _ _ _ rfl) (oneI _) (by have := unhide HLEN; unfold maxLen; omega) (by have := unhide HLEN; omega) (by have := (unhide HB1).size; simp; omega) ?_; intro v' w2 hown' hgrow _)
)
        have R1 : OI w.heap.size w2 v' ((xs.take (k + 1)).map g) := by
          rw [unhide HST]; exact OI.step hown'
        have R2 := below_grown (bal (unhide HB1) (.cells #[.int .i64 nm] 3)) hgrow (by have := (unhide HB1).size; simp; omega) ((unhide HO1).row)
        go_roundw
        case rel => exact ⟨k + 1, by omega, by go_num, R1, R2⟩
        case measure => simp [intOf]; omega
      · obtain rfl : k = xs.length := by omega
        rw [List.take_of_length_le (Nat.le_refl _)] at hown
        have HO := hide hown
        have HB := hide hb
        clear hown hb HC
        go_wp2
        exact bodyPost_ret (v := u5) (by simp [results, Tryz.results98, go_sem]) rfl ⟨⟨_, rfl, unhide HO⟩, unhide HB⟩

theorem OP.step {B : Nat} {v : Value} {xs : List Port} {W : World} {nm : ByteArray} {x : Int} (h : W.ownsRow B 75 2 v (xs.length + 1) (xs.flatMap portC ++ [.string nm, .int .i64 x])) (h3 : ∀ p ∈ xs, p.name.size ≤ maxLen) (hs : nm.size ≤ maxLen) : OP B W v (xs ++ [⟨nm, x⟩]) := by
  refine ⟨?_, fun p hp => ?_⟩
  · unfold OW
    rw [List.length_append, List.flatMap_append]
    simpa [portC] using h
  · rcases List.mem_append.1 hp with h | h
    · exact h3 p h
    · simp at h; subst h; exact hs
set_option maxHeartbeats 1600000 in
theorem iListPorts (p : Nat) (g : Int → Int) (xs : List Port) (v : Value) (w : World) (hl : xs.length ≤ 1048576) (hr : RS 2 RPort w 0 xs v) (HT : Hid (∀ x ∈ xs, ∀ V, Below w.heap.size w V → Calls Tryz.prog 97 #[.agg #[.string x.name, .int .i64 x.src], .pointer (some ⟨p, 0, none⟩)] V fun e w' => e = .returned (.agg #[.string x.name, .int .i64 (g x.src)]) ∧ Below V.heap.size V w')) :
    Calls Tryz.prog 96 #[v, .func (.func 97) #[] #[.pointer (some ⟨p, 0, none⟩)]] w fun e w' => (∃ v', e = .returned v' ∧ OP w.heap.size w' v' (xs.map (fun x : Port => (⟨x.name, g x.src⟩ : Port)))) ∧ Below w.heap.size w w' := by
  rcases hr.open with ⟨rfl, a, c, rfl⟩ | ⟨b, o, c, rfl, hc, hn, _, hcs⟩
  · clear hr
    go_enter Tryz.func96, Tryz.ntmps96
    go_wp2
    refine wp_loop_rounds 1 ?_
    rw [rounds_succ]
    go_wp2
    exact bodyPost_ret (v := .slice none 0 0) (by simp [results, Tryz.results96, go_sem]) rfl ⟨⟨_, rfl, OP_nil _ _⟩, brf _⟩
  · unfold maxLen at hn
    have HC := hide hcs
    clear hcs hr
    obtain ⟨i0, hi, hz0, hz1, hz2⟩ := info_parts info58
    go_enter Tryz.func96, Tryz.ntmps96
    go_wp2
    go_loopw [5, 10] (fun v i wr => ∃ k : Nat, k ≤ xs.length ∧ i = .int .i64 k ∧ OP w.heap.size wr v ((xs.take k).map (fun x : Port => (⟨x.name, g x.src⟩ : Port))) ∧ Below w.heap.size w wr) (fun _ i _ => xs.length - (intOf i).toNat)
    case atStart => exact ⟨0, Nat.zero_le _, rfl, OP_nil _ _, brf _⟩
    case round =>
      obtain ⟨k, hk, rfl, hown, hb⟩ := hrel
      by_cases hlt : k < xs.length
      · have hx : xs[k]? = some xs[k] := List.getElem?_eq_getElem hlt
        have hst : (xs.take (k + 1)).map (fun x : Port => (⟨x.name, g x.src⟩ : Port)) = (xs.take k).map (fun x : Port => (⟨x.name, g x.src⟩ : Port)) ++ [⟨xs[k].name, g xs[k].src⟩] := by
          rw [List.take_add_one, hx, List.map_append]; rfl
        have hlen : ((xs.take k).map (fun x : Port => (⟨x.name, g x.src⟩ : Port))).length = k := by rw [List.length_map, List.length_take]; omega
        have HTX := hide (fun V hV => (unhide HT) xs[k] (List.getElem_mem hlt) V hV)
        generalize xs[k] = x at hx hst HTX
        obtain ⟨u, hul, hat, hrx⟩ := unhide HC k x hx
        unfold RPort at hrx
        obtain ⟨rfl, hbn⟩ := hrx
        have k0 := cell_later hb (hat.get (j := 0) rfl)
        have k1 := cell_later hb (hat.get (j := 1) rfl)
        simp only [Nat.add_zero] at k0
        have hsz := hb.size
        have HB := hide hb
        have HST := hide hst
        have HO := hide hown
        have HLEN := hide hlen
        have HSZ := hide hsz
        have HN := hide hbn
        clear hb hat hul HC hst hown hlen hsz hbn
        generalize hnm : x.name = nm at *
        generalize hq2 : g x.src = z2 at *
        generalize hq1 : x.src = z1 at *
        go_wp2_with (first
          | (go_at_call 97; refine (unhide HTX _ (bal (unhide HB) _)).mono ?_; rintro e W1 ⟨rfl, hb1⟩; have HO1 := hide ((unhide HO).later (btr (bal (brf wr) _) hb1)); have HB1 := hide (btr (bal (unhide HB) _) hb1); clear hb1)
          | (at_builtin; refine wpList_append_own _ rfl _ _ 34 rfl w.heap.size 75 i0 portZ 2 24 Tryz.underlying34 hi hz0 hz1 hz2 rfl (by decide) _ _ _ rfl (World.ownsRow.alloc (unhide HO1).1 _) ⟨W1.heap.size, 0, none⟩ 1 1 [.string nm, .int .i64 z2] rfl rfl (newPt _ _ _ _ rfl) (port_one _ _) (by have := unhide HLEN; unfold maxLen; omega) (by have := unhide HLEN; omega) (by have := (unhide HB1).size; simp; omega) ?_; intro v' w2 hown' hgrow _)
)
        have R1 : OP w.heap.size w2 v' ((xs.take (k + 1)).map (fun x : Port => (⟨x.name, g x.src⟩ : Port))) := by
          rw [unhide HST]; exact OP.step hown' (unhide HO1).2 (unhide HN)
        have R2 := below_grown (bal (unhide HB1) (.cells #[.string nm, .int .i64 z2] 75)) hgrow (by have := (unhide HB1).size; simp; omega) ((unhide HO1).1.row)
        go_roundw
        case rel => exact ⟨k + 1, by omega, by go_num, R1, R2⟩
        case measure => simp [intOf]; omega
      · obtain rfl : k = xs.length := by omega
        rw [List.take_of_length_le (Nat.le_refl _)] at hown
        have HO := hide hown
        have HB := hide hb
        clear hown hb HC
        go_wp2
        exact bodyPost_ret (v := u5) (by simp [results, Tryz.results96, go_sem]) rfl ⟨⟨_, rfl, unhide HO⟩, unhide HB⟩
set_option maxHeartbeats 1600000 in
theorem iAll (g : Nat) (bl : List Int) (xs : List Int) (v : Value) (w : World) (hM : bl.length ≤ 2097152) (hl : xs.length ≤ 1048576) (hx : ∀ x ∈ xs, 0 ≤ x ∧ x < (bl.length : Int)) (hr : RS 1 RInt w 0 xs v) (hg : BE w g bl) :
    Calls Tryz.prog 70 #[.slice (some ⟨g, 0, none⟩) bl.length bl.length, v] w fun e w' => (∃ v', e = .returned v' ∧ OI w.heap.size w' v' (xs.map (becF bl))) ∧ Below w.heap.size w w' := by
  obtain ⟨W, hW⟩ : ∃ W, W = w.alloc (.cells #[.slice (some ⟨g, 0, none⟩) bl.length bl.length] 129) := ⟨_, rfl⟩
  have HW : Hid (Below w.heap.size w W) := hide (by rw [hW]; exact bal (brf w) _)
  have HL := hide (fun V (hV : Below W.heap.size W V) => iListInts w.heap.size (becF bl) xs v V hl (hr.later RInt.keeps (btr (unhide HW) hV)) (hide fun x hm U hU => iAll1 w.heap.size g bl x U hM (hx x hm).1 (hx x hm).2 (by
    refine cell_later (btr hV hU) ?_
    rw [hW, World.cell?_alloc_new]; rfl) (hg.later (btr (btr (unhide HW) hV) hU))))
  have HW' := hide hW
  obtain ⟨a, c, rfl⟩ := hr.slice
  clear hr hg hx hW
  go_enter Tryz.func70, Tryz.ntmps70
  go_wp2_with fail
  rw [← unhide HW']
  refine (unhide HL _ (brf _)).mono ?_
  rintro e W1 ⟨⟨v1, rfl, ho⟩, hb⟩
  have HO : Hid (OI w.heap.size W1 v1 (xs.map (becF bl))) := hide (by
    obtain ⟨h1, h2 | ⟨q, cap, cur, e1, e2, e3⟩⟩ := ho
    · exact ⟨h1, .inl h2⟩
    · exact ⟨h1, .inr ⟨q, cap, cur, e1, by have := (unhide HW).size; omega, e3⟩⟩)
  have HB := hide (btr (unhide HW) hb)
  clear ho hb
  go_wp2
  exact bodyPost_ret (v := v1) (by simp [results, Tryz.results70, go_sem]) rfl ⟨⟨_, rfl, unhide HO⟩, unhide HB⟩
set_option maxHeartbeats 1600000 in
theorem iPorts (g : Nat) (bl : List Int) (xs : List Port) (v : Value) (w : World) (hM : bl.length ≤ 2097152) (hl : xs.length ≤ 1048576) (hx : ∀ x ∈ xs, 0 ≤ x.src ∧ x.src < (bl.length : Int)) (hr : RS 2 RPort w 0 xs v) (hg : BE w g bl) :
    Calls Tryz.prog 69 #[.slice (some ⟨g, 0, none⟩) bl.length bl.length, v] w fun e w' => (∃ v', e = .returned v' ∧ OP w.heap.size w' v' (xs.map (fun x : Port => (⟨x.name, becF bl x.src⟩ : Port)))) ∧ Below w.heap.size w w' := by
  obtain ⟨W, hW⟩ : ∃ W, W = w.alloc (.cells #[.slice (some ⟨g, 0, none⟩) bl.length bl.length] 129) := ⟨_, rfl⟩
  have HW : Hid (Below w.heap.size w W) := hide (by rw [hW]; exact bal (brf w) _)
  have HL := hide (fun V (hV : Below W.heap.size W V) => iListPorts w.heap.size (becF bl) xs v V hl (hr.later RPort.keeps (btr (unhide HW) hV)) (hide fun x hm U hU => iPort1 w.heap.size g bl x.name x.src U hM (hx x hm).1 (hx x hm).2 (by
    refine cell_later (btr hV hU) ?_
    rw [hW, World.cell?_alloc_new]; rfl) (hg.later (btr (btr (unhide HW) hV) hU))))
  have HW' := hide hW
  obtain ⟨a, c, rfl⟩ := hr.slice
  clear hr hg hx hW
  go_enter Tryz.func69, Tryz.ntmps69
  go_wp2_with fail
  rw [← unhide HW']
  refine (unhide HL _ (brf _)).mono ?_
  rintro e W1 ⟨⟨v1, rfl, ho⟩, hb⟩
  have HO : Hid (OP w.heap.size W1 v1 (xs.map (fun x : Port => (⟨x.name, becF bl x.src⟩ : Port)))) := hide (by
    obtain ⟨⟨h1, h2 | ⟨q, cap, cur, e1, e2, e3⟩⟩, h4⟩ := ho
    · exact ⟨⟨h1, .inl h2⟩, h4⟩
    · exact ⟨⟨h1, .inr ⟨q, cap, cur, e1, by have := (unhide HW).size; omega, e3⟩⟩, h4⟩)
  have HB := hide (btr (unhide HW) hb)
  clear ho hb
  go_wp2
  exact bodyPost_ret (v := v1) (by simp [results, Tryz.results69, go_sem]) rfl ⟨⟨_, rfl, unhide HO⟩, unhide HB⟩
end Go.Proofs.YtdmmbhemmbgcpabGreat
namespace Go.Proofs.YtdmmbhemmbgcpabGreat
open Go Go.RowKit
set_option linter.unusedVariables false
section
variable {P : Program} {ops : Array Oper} {a0 : Act} {F : Nat → Value → Prop} {F2 : Nat → World → Value → Prop} {w0 : World} {m n : Nat} {A : Value → World → Prop} {E : World → Prop}
/-- Facts: until the append they may speak of the world; of what the append gave one knows A until it is stored. -/
abbrev GA (F : Nat → Value → Prop) (F2 : Nat → World → Value → Prop) (m n : Nat) (A : Value → World → Prop) : Array Bool → Nat → World → Value → Prop := fun l k w v => F k v ∧ (l.getD m false = false → F2 k w v) ∧ (k = m → l.getD n false = false → A v w)
abbrev JA (w0 : World) (m n : Nat) (A : Value → World → Prop) (E : World → Prop) : Array Bool → World → Prop := fun l w => (l.getD m false = false → Below w0.heap.size w0 w) ∧ (l.getD n false = true → E w) ∧ (l.getD n false = true → l.getD m false = true)
theorem JA.start {w0 w : World} {m n q : Nat} {A : Value → World → Prop} {E : World → Prop} (h : Below w0.heap.size w0 w) : JA w0 m n A E (Array.replicate q false) w := by
  have e : (Array.replicate q false).getD n false = false := by
    by_cases hm : n < q
    · simp [Array.getD, hm]
    · simp [Array.getD, hm]
  exact ⟨fun _ => h, fun h => (by rw [e] at h; cases h), fun h => (by rw [e] at h; cases h)⟩
theorem und {G : Array Bool → Nat → World → Value → Prop} {J : Array Bool → World → Prop} {l : Array Bool} {a : Act} {w : World} (hp : PA ops G J a0 l a w) {k j : Nat} (hn : (ops[j]?).any (fun o => onB o.after k) = true) (hu : l.getD k false = false) : l.getD j false = false := by
  cases e : l.getD j false with
  | false => rfl
  | true =>
    exfalso
    cases ho : ops[j]? with
    | none => rw [ho] at hn; simp at hn
    | some o =>
      rw [ho] at hn
      have hd := onB_spec (by simpa using hn) (hp.down j o ho e)
      rw [hu] at hd
      cases hd
theorem set_oth {l : Array Bool} {k j : Nat} (hu : l.getD k true = false) (h : j ≠ k) : (l.setIfInBounds k true).getD j false = l.getD j false := by
  rw [set_ite (lt_of_undone hu), if_neg h]
theorem set_own {l : Array Bool} {k : Nat} (hu : l.getD k true = false) : (l.setIfInBounds k true).getD k false = true := by
  rw [set_ite (lt_of_undone hu), if_pos rfl]
/-- An operation ahead of the append: it reads. -/
theorem sa_val {k : Nat} {o : Oper} (hkm : k ≠ m) (hkn : k ≠ n) (hm : ∀ l a w, PA ops (GA F F2 m n A) (JA w0 m n A E) a0 l a w → l.getD k false = false → l.getD m false = false ∧ l.getD n false = false) (hg : o.guard = none) (h : ∀ l a w, PA ops (GA F F2 m n A) (JA w0 m n A E) a0 l a w → l.getD m false = false → Below w0.heap.size w0 w → (∀ e ∈ o.after, Region.binds .any e = true → l.getD e.on false = true) → ∃ x, (execOp a.eval o).run P w = .ok (.value x) w ∧ F k x ∧ F2 k w x) : Stp P ops (GA F F2 m n A) (JA w0 m n A E) a0 k o := by
  intro l a w hp hu ha
  obtain ⟨h1, h2⟩ := hm l a w hp (notDoneB hu)
  have hb := hp.j.1 h1
  obtain ⟨x, hr, hf, hf2⟩ := h l a w hp h1 hb ha
  unfold opW
  rw [if_pos (wanted_none hg)]
  refine .inl ⟨x, w, hr, x, rfl, ⟨fun _ => hb, fun e => ?_, fun e => ?_⟩, ⟨hf, fun _ => hf2, fun e => absurd e hkm⟩, fun j d hd hj hG => ⟨hG.1, fun _ => hG.2.1 h1, fun e _ => hG.2.2 e h2⟩⟩
  · rw [set_oth hu (Ne.symm hkn), h2] at e; cases e
  · rw [set_oth hu (Ne.symm hkn), h2] at e; cases e
theorem sa_new {k : Nat} {o : Oper} (hL : Lasts F2) (hkm : k ≠ m) (hkn : k ≠ n) (hm : ∀ l a w, PA ops (GA F F2 m n A) (JA w0 m n A E) a0 l a w → l.getD k false = false → l.getD m false = false ∧ l.getD n false = false) (hg : o.guard = none) (h : ∀ l a w, PA ops (GA F F2 m n A) (JA w0 m n A E) a0 l a w → l.getD m false = false → Below w0.heap.size w0 w → (∀ e ∈ o.after, Region.binds .any e = true → l.getD e.on false = true) → ∃ x ob, (execOp a.eval o).run P w = .ok (.value x) (w.alloc ob) ∧ F k x ∧ F2 k (w.alloc ob) x) : Stp P ops (GA F F2 m n A) (JA w0 m n A E) a0 k o := by
  intro l a w hp hu ha
  obtain ⟨h1, h2⟩ := hm l a w hp (notDoneB hu)
  have hb := hp.j.1 h1
  obtain ⟨x, ob, hr, hf, hf2⟩ := h l a w hp h1 hb ha
  unfold opW
  rw [if_pos (wanted_none hg)]
  refine .inl ⟨x, _, hr, x, rfl, ⟨fun _ => bal hb ob, fun e => ?_, fun e => ?_⟩, ⟨hf, fun _ => hf2, fun e => absurd e hkm⟩, fun j d hd hj hG => ⟨hG.1, fun _ => hL _ _ _ _ (bal (brf w) ob) (hG.2.1 h1), fun e _ => ?_⟩⟩
  · rw [set_oth hu (Ne.symm hkn), h2] at e; cases e
  · rw [set_oth hu (Ne.symm hkn), h2] at e; cases e
  · subst e; rw [h1] at hj; cases hj
theorem sa_call {k : Nat} {o : Oper} {f : FuncId} (hL : Lasts F2) (hkm : k ≠ m) (hkn : k ≠ n) (hm : ∀ l a w, PA ops (GA F F2 m n A) (JA w0 m n A E) a0 l a w → l.getD k false = false → l.getD m false = false ∧ l.getD n false = false) (hg : o.guard = none) (h : ∀ l a w, PA ops (GA F F2 m n A) (JA w0 m n A E) a0 l a w → l.getD m false = false → Below w0.heap.size w0 w → (∀ e ∈ o.after, Region.binds .any e = true → l.getD e.on false = true) → ∃ args, (execOp a.eval o).run P w = .ok (.enter f args) w ∧ Calls P f args w fun e w' => ∃ x, e = .returned x ∧ F k x ∧ F2 k w' x ∧ Below w.heap.size w w') : Stp P ops (GA F F2 m n A) (JA w0 m n A E) a0 k o := by
  intro l a w hp hu ha
  obtain ⟨h1, h2⟩ := hm l a w hp (notDoneB hu)
  have hb := hp.j.1 h1
  obtain ⟨args, hr, hc⟩ := h l a w hp h1 hb ha
  unfold opW
  rw [if_pos (wanted_none hg)]
  refine .inr (.inr ⟨f, args, w, hr, Calls.mono hc ?_⟩)
  rintro e w' ⟨x, rfl, hf, hf2, hb'⟩
  refine ⟨x, rfl, x, rfl, ⟨fun _ => btr hb hb', fun e => ?_, fun e => ?_⟩, ⟨hf, fun _ => hf2, fun e => absurd e hkm⟩, fun j d hd hj hG => ⟨hG.1, fun _ => hL _ _ _ _ hb' (hG.2.1 h1), fun e _ => ?_⟩⟩
  · rw [set_oth hu (Ne.symm hkn), h2] at e; cases e
  · rw [set_oth hu (Ne.symm hkn), h2] at e; cases e
  · subst e; rw [h1] at hj; cases hj
/-- An operation that looks at no memory, whenever it is done. -/
theorem sa_float {k : Nat} {o : Oper} (hkm : k ≠ m) (hkn : k ≠ n) (hn : ∀ l a w, PA ops (GA F F2 m n A) (JA w0 m n A E) a0 l a w → l.getD k false = false → l.getD n false = false) (hg : o.guard = none) (h : ∀ l a w, PA ops (GA F F2 m n A) (JA w0 m n A E) a0 l a w → (∀ e ∈ o.after, Region.binds .any e = true → l.getD e.on false = true) → ∃ x, (execOp a.eval o).run P w = .ok (.value x) w ∧ F k x ∧ F2 k w x) : Stp P ops (GA F F2 m n A) (JA w0 m n A E) a0 k o := by
  intro l a w hp hu ha
  have h2 := hn l a w hp (notDoneB hu)
  obtain ⟨x, hr, hf, hf2⟩ := h l a w hp ha
  unfold opW
  rw [if_pos (wanted_none hg)]
  refine .inl ⟨x, w, hr, x, rfl, ⟨fun e => ?_, fun e => ?_, fun e => ?_⟩, ⟨hf, fun _ => hf2, fun e => absurd e hkm⟩, fun j d hd hj hG => ⟨hG.1, fun e => ?_, fun e _ => hG.2.2 e h2⟩⟩
  · rw [set_oth hu (Ne.symm hkm)] at e; exact hp.j.1 e
  · rw [set_oth hu (Ne.symm hkn), h2] at e; cases e
  · rw [set_oth hu (Ne.symm hkn), h2] at e; cases e
  · rw [set_oth hu (Ne.symm hkm)] at e; exact hG.2.1 e
theorem sa_app {o : Oper} (hmn : m ≠ n) (hn : ∀ l a w, PA ops (GA F F2 m n A) (JA w0 m n A E) a0 l a w → l.getD m false = false → l.getD n false = false) (hg : o.guard = none) (h : ∀ l a w, PA ops (GA F F2 m n A) (JA w0 m n A E) a0 l a w → l.getD m false = false → Below w0.heap.size w0 w → (∀ e ∈ o.after, Region.binds .any e = true → l.getD e.on false = true) → ∃ x w', (execOp a.eval o).run P w = .ok (.value x) w' ∧ A x w' ∧ F m x) : Stp P ops (GA F F2 m n A) (JA w0 m n A E) a0 m o := by
  intro l a w hp hu ha
  have h1 := notDoneB hu
  have h2 := hn l a w hp h1
  obtain ⟨x, w', hr, hA, hf⟩ := h l a w hp h1 (hp.j.1 h1) ha
  unfold opW
  rw [if_pos (wanted_none hg)]
  refine .inl ⟨x, w', hr, x, rfl, ⟨fun e => ?_, fun e => ?_, fun e => ?_⟩, ⟨hf, fun e => ?_, fun _ _ => hA⟩, fun j d hd hj hG => ⟨hG.1, fun e => ?_, fun e _ => ?_⟩⟩
  · rw [set_own hu] at e; cases e
  · rw [set_oth hu (Ne.symm hmn), h2] at e; cases e
  · rw [set_oth hu (Ne.symm hmn), h2] at e; cases e
  · rw [set_own hu] at e; cases e
  · rw [set_own hu] at e; cases e
  · subst e; rw [h1] at hj; cases hj
theorem sa_last {o : Oper} {t : Tmp} (hmn : m ≠ n) (hg : o.guard = none) (hd : (ops[m]?).bind (·.dst) = some t) (hon : onB o.after m = true) (h : ∀ l a w, PA ops (GA F F2 m n A) (JA w0 m n A E) a0 l a w → A (a.eval (.tmp t)) w → (∀ e ∈ o.after, Region.binds .any e = true → l.getD e.on false = true) → ∃ w', (execOp a.eval o).run P w = .ok .skip w' ∧ E w') (hfn : F n undef) : Stp P ops (GA F F2 m n A) (JA w0 m n A E) a0 n o := by
  intro l a w hp hu ha
  have h2 := notDoneB hu
  have h1 : l.getD m false = true := onB_spec hon ha
  obtain ⟨om, hom, hdm⟩ := Option.bind_eq_some_iff.1 hd
  have hA := (hp.good m om t hom hdm h1).2.2 rfl h2
  obtain ⟨w', hr, hE⟩ := h l a w hp hA ha
  unfold opW
  rw [if_pos (wanted_none hg)]
  have e1 : (l.setIfInBounds n true).getD m false = true := by rw [set_oth hu hmn, h1]
  have e2 := set_own hu
  refine .inr (.inl ⟨w', hr, undef, rfl, ⟨fun e => ?_, fun _ => hE, fun _ => e1⟩, ⟨hfn, fun e => ?_, fun e => absurd e.symm hmn⟩, fun j d hd hj hG => ⟨hG.1, fun e => ?_, fun _ e => ?_⟩⟩)
  · rw [e1] at e; cases e
  · rw [e1] at e; cases e
  · rw [e1] at e; cases e
  · rw [e2] at e; cases e
end
end Go.Proofs.YtdmmbhemmbgcpabGreat
