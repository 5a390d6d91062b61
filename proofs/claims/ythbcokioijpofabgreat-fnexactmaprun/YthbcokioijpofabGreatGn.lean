/- Bools in a row of one's own. -/
import Derived.Test.YthbcokioijpofabGreatGS2
import Derived.OwnWalk
import Derived.Test.YthbcokioijpofabGreatLO
import Derived.Test.YthbcokioijpofabGreatGa
import Derived.Test.YthbcokioijpofabGreatGf
namespace Go.Proofs.YthbcokioijpofabGreat
open Go.RowKit Gs
set_option linter.unusedVariables false
set_option maxRecDepth 100000
def OL (B : Nat) (W : World) (v : Value) (xs : List Bool) : Prop := W.ownsRow B 4 1 v xs.length (xs.map fun x => Value.bool x)
theorem OL_nil (B : Nat) (W : World) : OL B W (.slice none 0 0) [] := World.ownsRow_nil _ _ _ _
theorem OL.later {B : Nat} {v : Value} {xs : List Bool} {W W' : World} (h : OL B W v xs) (hb : Below W.heap.size W W') : OL B W' v xs := by
  obtain ⟨h1, h2 | ⟨g, cap, cur, hv, hg, hc, rest⟩⟩ := h
  · exact ⟨h1, .inl h2⟩
  · exact ⟨h1, .inr ⟨g, cap, cur, hv, hg, (hb.block g (Array.getElem?_eq_some_iff.1 hc).1).trans hc, rest⟩⟩
theorem OL.alloc {B : Nat} {v : Value} {xs : List Bool} {W : World} (h : OL B W v xs) (o : Obj) : OL B (W.alloc o) v xs := World.ownsRow.alloc h o
theorem OL.row {B : Nat} {v : Value} {xs : List Bool} {W : World} (h : OL B W v xs) : ∀ j, v.ownBlock = some j → B ≤ j := fun j hj => (World.ownsRow.lt h j hj).1
theorem OL.shape {B : Nat} {v : Value} {xs : List Bool} {W : World} (h : OL B W v xs) : ∃ a l c, v = .slice a l c := by
  rcases h.2 with ⟨rfl, _⟩ | ⟨g, cap, cur, rfl, _⟩
  · exact ⟨_, _, _, rfl⟩
  · exact ⟨_, _, _, rfl⟩
theorem OL.step {B : Nat} {v : Value} {xs : List Bool} {W : World} {x : Bool} (h : W.ownsRow B 4 1 v (xs.length + 1) ((xs.map fun x => Value.bool x) ++ [.bool x])) : OL B W v (xs ++ [x]) := by
  unfold OL
  rw [List.length_append, List.map_append]
  exact h
theorem OL.read {B : Nat} {v : Value} {xs : List Bool} {W : World} (h : OL B W v xs) (hl : xs.length ≤ maxLen) : RS 1 RBool W B xs v := by
  have hc := fun g hg => World.ownsRow.cells h (g := g) hg
  rcases h.2 with ⟨rfl, hn⟩ | ⟨g, cap, cur, rfl, hb, hg, hlc, hm, _⟩
  · have : xs = [] := List.length_eq_zero_iff.1 hn
    subst this
    exact RS.nil _ _ _ _ _ _
  · refine ⟨_, _, rfl, hlc, hl, fun _ => ⟨g, 0, rfl, hb, fun i x hx => ?_⟩⟩
    refine ⟨[.bool x], rfl, fun j y hj => ?_, rfl⟩
    have hj0 : j = 0 := by
      cases j with
      | zero => rfl
      | succ j => simp at hj
    subst hj0
    simp at hj
    subst hj
    have := hc g rfl i (.bool x) (by rw [List.getElem?_map, hx]; rfl)
    rw [Addr.add_lit] at this
    simpa using this
theorem info4 : (Tryz.prog.info? 4).map (fun i => (i.zero, i.size, i.bytes)) = some (some (.bool false), 1, 1) := by kernel_rfl
theorem newL (W : World) (x : Bool) (g : Nat) (hg : g = W.heap.size) : ∀ j u, [Value.bool x][j]? = some u → (W.alloc (.cells #[.bool x] 4)).cell? ((⟨g, 0, none⟩ : Addr).add j) = some u := by
  intro j u h
  subst hg
  match j, h with
  | 0, h => simp at h; subst h; simp [Addr.add]
  | j + 1, h => simp at h
theorem oneL (x : Bool) : ∀ u ∈ [Value.bool x], u.oneCell' = true := by
  intro u hu; simp at hu; subst hu; rfl
theorem OL_start {W : World} {B M : Nat} (hM : W.heap.size = M) (h : B ≤ M) : OL B (W.alloc (.cells #[] 4)) (.slice (some ⟨M, 0, none⟩) 0 0) [] := by
  subst hM
  exact ⟨rfl, .inr ⟨W.heap.size, 0, #[], rfl, h, heap_alloc_new W _, Nat.le_refl _, Nat.zero_le _, rfl, rfl⟩⟩
end Go.Proofs.YthbcokioijpofabGreat
namespace Go.Proofs.YthbcokioijpofabGreat
open Go.RowKit Gs
set_option linter.unusedVariables false
set_option maxRecDepth 100000
def OT (B : Nat) (W : World) (v : Value) (xs : List ByteArray) : Prop := W.ownsRow B 9 1 v xs.length (xs.map fun x => Value.string x) ∧ ∀ x ∈ xs, x.size ≤ maxLen
theorem OT_nil (B : Nat) (W : World) : OT B W (.slice none 0 0) [] := ⟨World.ownsRow_nil _ _ _ _, fun x h => by cases h⟩
theorem OT.later {B : Nat} {v : Value} {xs : List ByteArray} {W W' : World} (h : OT B W v xs) (hb : Below W.heap.size W W') : OT B W' v xs := by
  obtain ⟨⟨h1, h2 | ⟨g, cap, cur, hv, hg, hc, rest⟩⟩, h3⟩ := h
  · exact ⟨⟨h1, .inl h2⟩, h3⟩
  · exact ⟨⟨h1, .inr ⟨g, cap, cur, hv, hg, (hb.block g (Array.getElem?_eq_some_iff.1 hc).1).trans hc, rest⟩⟩, h3⟩
theorem OT.alloc {B : Nat} {v : Value} {xs : List ByteArray} {W : World} (h : OT B W v xs) (o : Obj) : OT B (W.alloc o) v xs := ⟨World.ownsRow.alloc h.1 o, h.2⟩
theorem OT.row {B : Nat} {v : Value} {xs : List ByteArray} {W : World} (h : OT B W v xs) : ∀ j, v.ownBlock = some j → B ≤ j := fun j hj => (World.ownsRow.lt h.1 j hj).1
theorem OT.shape {B : Nat} {v : Value} {xs : List ByteArray} {W : World} (h : OT B W v xs) : ∃ a l c, v = .slice a l c := by
  rcases h.1.2 with ⟨rfl, _⟩ | ⟨g, cap, cur, rfl, _⟩
  · exact ⟨_, _, _, rfl⟩
  · exact ⟨_, _, _, rfl⟩
theorem OT.step {B : Nat} {v : Value} {xs : List ByteArray} {W : World} {x : ByteArray} (h : W.ownsRow B 9 1 v (xs.length + 1) ((xs.map fun x => Value.string x) ++ [.string x])) (hs : ∀ y ∈ xs, y.size ≤ maxLen) (hx : x.size ≤ maxLen) : OT B W v (xs ++ [x]) := by
  refine ⟨?_, fun y hy => ?_⟩
  · rw [List.length_append, List.map_append]
    exact h
  · rcases List.mem_append.1 hy with h | h
    · exact hs y h
    · simp at h; subst h; exact hx
theorem OT.low {B B' : Nat} {v : Value} {xs : List ByteArray} {W : World} (hB : B ≤ B') (h : OT B' W v xs) : OT B W v xs := by
  obtain ⟨⟨h1, h2 | ⟨g, cap, cur, hv, hg, rest⟩⟩, h3⟩ := h
  · exact ⟨⟨h1, .inl h2⟩, h3⟩
  · exact ⟨⟨h1, .inr ⟨g, cap, cur, hv, Nat.le_trans hB hg, rest⟩⟩, h3⟩
theorem OT.read {B : Nat} {v : Value} {xs : List ByteArray} {W : World} (h : OT B W v xs) (hl : xs.length ≤ maxLen) : RS 1 RStr W B xs v := by
  have hc := fun g hg => World.ownsRow.cells h.1 (g := g) hg
  have h3 := h.2
  rcases h.1.2 with ⟨rfl, hn⟩ | ⟨g, cap, cur, rfl, hb, hg, hlc, hm, _⟩
  · have : xs = [] := List.length_eq_zero_iff.1 hn
    subst this
    exact RS.nil _ _ _ _ _ _
  · refine ⟨_, _, rfl, hlc, hl, fun _ => ⟨g, 0, rfl, hb, fun i x hx => ?_⟩⟩
    refine ⟨[.string x], rfl, fun j y hj => ?_, rfl, h3 x (List.mem_of_getElem? hx)⟩
    have hj0 : j = 0 := by
      cases j with
      | zero => rfl
      | succ j => simp at hj
    subst hj0
    simp at hj
    subst hj
    have := hc g rfl i (.string x) (by rw [List.getElem?_map, hx]; rfl)
    rw [Addr.add_lit] at this
    simpa using this

theorem newT (W : World) (x : ByteArray) (g : Nat) (hg : g = W.heap.size) : ∀ j u, [Value.string x][j]? = some u → (W.alloc (.cells #[.string x] 9)).cell? ((⟨g, 0, none⟩ : Addr).add j) = some u := by
  intro j u h
  subst hg
  match j, h with
  | 0, h => simp at h; subst h; simp [Addr.add]
  | j + 1, h => simp at h
theorem oneT (x : ByteArray) : ∀ u ∈ [Value.string x], u.oneCell' = true := by
  intro u hu; simp at hu; subst hu; rfl
theorem OT_start {W : World} {B M : Nat} (hM : W.heap.size = M) (h : B ≤ M) : OT B (W.alloc (.cells #[] 9)) (.slice (some ⟨M, 0, none⟩) 0 0) [] := by
  subst hM
  exact ⟨⟨rfl, .inr ⟨W.heap.size, 0, #[], rfl, h, heap_alloc_new W _, Nat.le_refl _, Nat.zero_le _, rfl, rfl⟩⟩, fun x h => by cases h⟩
end Go.Proofs.YthbcokioijpofabGreat
namespace Go.Proofs.YthbcokioijpofabGreat
open Go.RowKit Gs
set_option linter.unusedVariables false
set_option maxRecDepth 100000
theorem txt1_size (b : Bool) : (txt1 b).size ≤ maxLen := by cases b <;> decide
set_option maxHeartbeats 1600000 in
theorem iListTold {p b g : Nat} {W0 w : World} {r0 r1 r2 r3 r4 r5 : Value} {vs : List Bool} (h : Ob W0.heap.size w b g [r0, r1, r2, r3, r4, r5] vs) (hpc : w.cell? ⟨p, 0, none⟩ = some (.pointer (some ⟨b, 0, none⟩))) (hvl : vs.length ≤ 1048576 * 8) (hBW : Below W0.heap.size W0 w) (xs : List Port) (v : Value) (hl : xs.length ≤ 1048576) (hr : RS 2 RPort W0 0 xs v) (hlit : ∀ x ∈ xs, 0 ≤ x.src ∧ x.src < (vs.length : Int)) :
    Calls Tryz.prog 87 #[v, .func (.func 127) #[] #[.pointer (some ⟨p, 0, none⟩)]] w fun e w' => (∃ v', e = .returned v' ∧ OT w.heap.size w' v' (xs.map (fun x : Port => txt1 (srcV vs x.src)))) ∧ Below w.heap.size w w' := by
  rcases hr.open with ⟨rfl, a, c, rfl⟩ | ⟨b, o, c, rfl, hc, hn, _, hcs⟩
  · clear hr h
    go_enter Tryz.func87, Tryz.ntmps87
    go_wp2
    refine wp_loop_rounds 1 ?_
    rw [rounds_succ]
    go_wp2
    exact bodyPost_ret (v := .slice none 0 0) (by simp [results, Tryz.results87, go_sem]) rfl ⟨⟨_, rfl, OT_nil _ _⟩, brf _⟩
  · unfold maxLen at hn
    have HC := hide hcs
    clear hcs hr
    obtain ⟨i0, hi, hz0, hz1, hz2⟩ := info_parts info9
    go_enter Tryz.func87, Tryz.ntmps87
    go_wp2
    go_loopw [5, 10] (fun v i wr => ∃ k : Nat, k ≤ xs.length ∧ i = .int .i64 k ∧ OT w.heap.size wr v ((xs.take k).map (fun x : Port => txt1 (srcV vs x.src))) ∧ Below w.heap.size w wr) (fun _ i _ => xs.length - (intOf i).toNat)
    case atStart => exact ⟨0, Nat.zero_le _, rfl, OT_nil _ _, brf _⟩
    case round =>
      obtain ⟨k, hk, rfl, hown, hb⟩ := hrel
      by_cases hlt : k < xs.length
      · have hx : xs[k]? = some xs[k] := List.getElem?_eq_getElem hlt
        have hst : (xs.take (k + 1)).map (fun x : Port => txt1 (srcV vs x.src)) = (xs.take k).map (fun x : Port => txt1 (srcV vs x.src)) ++ [txt1 (srcV vs xs[k].src)] := by
          rw [List.take_add_one, hx, List.map_append]; rfl
        have hlen : ((xs.take k).map (fun x : Port => txt1 (srcV vs x.src))).length = k := by rw [List.length_map, List.length_take]; omega
        have hmx := hlit _ (List.getElem_mem hlt)
        generalize xs[k] = x at hx hst hmx
        have HT : Hid (∀ V, Below wr.heap.size wr V → Calls Tryz.prog 127 #[.agg #[.string x.name, .int .i64 x.src], .pointer (some ⟨p, 0, none⟩)] V fun e w' => e = .returned (.string (txt1 (srcV vs x.src))) ∧ Below V.heap.size V w') := hide (fun V hV => iToldPort (h.later (btr hb hV)) (cell_later (btr hb hV) hpc) x.name x.src hmx.1 hmx.2 hvl)
        have HN := hide (txt1_size (srcV vs x.src))
        obtain ⟨u, hul, hat, hrx⟩ := unhide HC k x hx
        unfold RPort at hrx
        obtain ⟨rfl, hbn⟩ := hrx
        have k0 := cell_later (btr hBW hb) (hat.get (j := 0) rfl)
        have k1 := cell_later (btr hBW hb) (hat.get (j := 1) rfl)
        simp only [Nat.add_zero] at k0
        have hsz := hb.size
        have HB := hide hb
        have HST := hide hst
        have HO := hide hown
        have HLEN := hide hlen
        have HSZ := hide hsz
        clear hb hat hul HC hst hown hlen hsz hbn hmx h
        generalize hyv : txt1 (srcV vs x.src) = yv at *
        generalize hnm : x.name = nm at *
        generalize hq1 : x.src = z1 at *
        go_wp2_with (first
          | (go_at_call 127; refine (unhide HT _ (bal (brf wr) _)).mono ?_; rintro e W1 ⟨rfl, hb1⟩; have HO1 := hide ((unhide HO).later (btr (bal (brf wr) _) hb1)); have HB1 := hide (btr (bal (unhide HB) _) hb1); clear hb1)
          | (at_builtin; refine wpList_append_own _ rfl _ _ 22 rfl w.heap.size 9 i0 (.string ByteArray.empty) 1 16 Tryz.underlying22 hi hz0 hz1 hz2 rfl (by decide) _ _ _ rfl ((unhide HO1).1.alloc _) ⟨W1.heap.size, 0, none⟩ 1 1 [.string yv] rfl rfl (newT _ _ _ rfl) (oneT _) (by have := unhide HLEN; unfold maxLen; omega) (by have := unhide HLEN; omega) (by have := (unhide HB1).size; simp; omega) ?_; intro v' w2 hown' hgrow _)
          | go_in)
        have R1 : OT w.heap.size w2 v' ((xs.take (k + 1)).map (fun x : Port => txt1 (srcV vs x.src))) := by
          rw [unhide HST]; exact OT.step hown' (unhide HO1).2 (unhide HN)
        have R2 := below_grown (bal (unhide HB1) (.cells #[.string yv] 9)) hgrow (by have := (unhide HB1).size; simp; omega) ((unhide HO1).row)
        go_roundw
        case rel => exact ⟨k + 1, by omega, by go_num, R1, R2⟩
        case measure => simp [intOf]; omega
      · obtain rfl : k = xs.length := by omega
        rw [List.take_of_length_le (Nat.le_refl _)] at hown
        have HO := hide hown
        have HB := hide hb
        clear hown hb HC h
        go_wp2
        exact bodyPost_ret (v := u5) (by simp [results, Tryz.results87, go_sem]) rfl ⟨⟨_, rfl, unhide HO⟩, unhide HB⟩
set_option maxHeartbeats 1600000 in
theorem iListNext {p b g : Nat} {W0 w : World} {r0 r1 r2 r3 r4 r5 : Value} {vs : List Bool} (h : Ob W0.heap.size w b g [r0, r1, r2, r3, r4, r5] vs) (hpc : w.cell? ⟨p, 0, none⟩ = some (.pointer (some ⟨b, 0, none⟩))) (hvl : vs.length ≤ 1048576 * 8) (hBW : Below W0.heap.size W0 w) (xs : List MapReg) (v : Value) (hl : xs.length ≤ 1048576) (hr : RS 4 RMapReg W0 0 xs v) (hlit : ∀ x ∈ xs, 0 ≤ x.src ∧ x.src < (vs.length : Int)) :
    Calls Tryz.prog 100 #[v, .func (.func 129) #[] #[.pointer (some ⟨p, 0, none⟩)]] w fun e w' => (∃ v', e = .returned v' ∧ OI w.heap.size w' v' (xs.map (fun x : MapReg => b2i (srcV vs x.src)))) ∧ Below w.heap.size w w' := by
  rcases hr.open with ⟨rfl, a, c, rfl⟩ | ⟨b, o, c, rfl, hc, hn, _, hcs⟩
  · clear hr h
    go_enter Tryz.func100, Tryz.ntmps100
    go_wp2
    refine wp_loop_rounds 1 ?_
    rw [rounds_succ]
    go_wp2
    exact bodyPost_ret (v := .slice none 0 0) (by simp [results, Tryz.results100, go_sem]) rfl ⟨⟨_, rfl, OI_nil _ _⟩, brf _⟩
  · unfold maxLen at hn
    have HC := hide hcs
    clear hcs hr
    obtain ⟨i0, hi, hz0, hz1, hz2⟩ := info_parts info3
    go_enter Tryz.func100, Tryz.ntmps100
    go_wp2
    go_loopw [5, 10] (fun v i wr => ∃ k : Nat, k ≤ xs.length ∧ i = .int .i64 k ∧ OI w.heap.size wr v ((xs.take k).map (fun x : MapReg => b2i (srcV vs x.src))) ∧ Below w.heap.size w wr) (fun _ i _ => xs.length - (intOf i).toNat)
    case atStart => exact ⟨0, Nat.zero_le _, rfl, OI_nil _ _, brf _⟩
    case round =>
      obtain ⟨k, hk, rfl, hown, hb⟩ := hrel
      by_cases hlt : k < xs.length
      · have hx : xs[k]? = some xs[k] := List.getElem?_eq_getElem hlt
        have hst : (xs.take (k + 1)).map (fun x : MapReg => b2i (srcV vs x.src)) = (xs.take k).map (fun x : MapReg => b2i (srcV vs x.src)) ++ [b2i (srcV vs xs[k].src)] := by
          rw [List.take_add_one, hx, List.map_append]; rfl
        have hlen : ((xs.take k).map (fun x : MapReg => b2i (srcV vs x.src))).length = k := by rw [List.length_map, List.length_take]; omega
        have hmx := hlit _ (List.getElem_mem hlt)
        generalize xs[k] = x at hx hst hmx
        have HT : Hid (∀ V, Below wr.heap.size wr V → Calls Tryz.prog 129 #[.agg #[.string x.name, .int .i64 x.src, .int .i64 x.init, .int .i64 x.clock], .pointer (some ⟨p, 0, none⟩)] V fun e w' => e = .returned (.int .i64 (b2i (srcV vs x.src))) ∧ Below V.heap.size V w') := hide (fun V hV => iNextOf (h.later (btr hb hV)) (cell_later (btr hb hV) hpc) x.name x.src x.init x.clock hmx.1 hmx.2 hvl)
        obtain ⟨u, hul, hat, hrx⟩ := unhide HC k x hx
        unfold RMapReg at hrx
        obtain ⟨rfl, hbn⟩ := hrx
        have k0 := cell_later (btr hBW hb) (hat.get (j := 0) rfl)
        have k1 := cell_later (btr hBW hb) (hat.get (j := 1) rfl)
        have k2 := cell_later (btr hBW hb) (hat.get (j := 2) rfl)
        have k3 := cell_later (btr hBW hb) (hat.get (j := 3) rfl)
        simp only [Nat.add_zero] at k0
        have hsz := hb.size
        have HB := hide hb
        have HST := hide hst
        have HO := hide hown
        have HLEN := hide hlen
        have HSZ := hide hsz
        clear hb hat hul HC hst hown hlen hsz hbn hmx h
        generalize hyv : b2i (srcV vs x.src) = yv at *
        generalize hnm : x.name = nm at *
        generalize hq1 : x.src = z1 at *
        generalize hq2 : x.init = z2 at *
        generalize hq3 : x.clock = z3 at *
        go_wp2_with (first
          | (go_at_call 129; refine (unhide HT _ (bal (brf wr) _)).mono ?_; rintro e W1 ⟨rfl, hb1⟩; have HO1 := hide ((unhide HO).later (btr (bal (brf wr) _) hb1)); have HB1 := hide (btr (bal (unhide HB) _) hb1); clear hb1)
          | (at_builtin; refine wpList_append_own _ rfl _ _ 67 rfl w.heap.size 3 i0 (.int .i64 0) 1 8 Tryz.underlying67 hi hz0 hz1 hz2 rfl (by decide) _ _ _ rfl ((unhide HO1).alloc _) ⟨W1.heap.size, 0, none⟩ 1 1 [.int .i64 yv] rfl rfl (newI _ _ _ rfl) (oneI _) (by have := unhide HLEN; unfold maxLen; omega) (by have := unhide HLEN; omega) (by have := (unhide HB1).size; simp; omega) ?_; intro v' w2 hown' hgrow _)
          | go_in)
        have R1 : OI w.heap.size w2 v' ((xs.take (k + 1)).map (fun x : MapReg => b2i (srcV vs x.src))) := by
          rw [unhide HST]; exact OI.step hown'
        have R2 := below_grown (bal (unhide HB1) (.cells #[.int .i64 yv] 3)) hgrow (by have := (unhide HB1).size; simp; omega) ((unhide HO1).row)
        go_roundw
        case rel => exact ⟨k + 1, by omega, by go_num, R1, R2⟩
        case measure => simp [intOf]; omega
      · obtain rfl : k = xs.length := by omega
        rw [List.take_of_length_le (Nat.le_refl _)] at hown
        have HO := hide hown
        have HB := hide hb
        clear hown hb HC h
        go_wp2
        exact bodyPost_ret (v := u5) (by simp [results, Tryz.results100, go_sem]) rfl ⟨⟨_, rfl, unhide HO⟩, unhide HB⟩
end Go.Proofs.YthbcokioijpofabGreat
