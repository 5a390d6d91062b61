/- The specification's values of a packed design: l15Value. -/
import Derived.Test.YtdmmbhemmbgcpabGreatPS1
import Derived.Test.YtdmmbhemmbgcpabGreatGQ8
import Derived.Test.YtdmmbhemmbgcpabGreatSN1
import Derived.Test.YtdmmbhemmbgcpabGreatGQ16
namespace Go.Proofs.YtdmmbhemmbgcpabGreat
open Go Go.RowKit Gs
set_option linter.unusedVariables false
set_option linter.unusedSimpArgs false
set_option maxRecDepth 100000
theorem b2i_range (b : Bool) : 0 ≤ b2i b ∧ b2i b ≤ 1 := by cases b <;> decide
theorem SE.in_cell {w V : World} {g N li ci ls cs : Nat} {ai az : Option Addr} {x : Packed} {ins st : List Bool} (h : SE w g N x ins st (.slice ai li ci) (.slice az ls cs) V) (hl : ins.length ≤ 1000000) {k : Nat} (hk : k < ins.length) : ∃ b o, ai = some ⟨b, o, none⟩ ∧ li ≤ ci ∧ V.cell? ⟨b, o + k, none⟩ = some (.int .i64 (b2i (ins.getD k false))) := by
  refine h.gi.cells (by rw [List.length_map]; omega) (q := k) (j := b2i (ins.getD k false)) ?_
  rw [List.getElem?_map, List.getElem?_eq_getElem hk, List.getD_eq_getElem?_getD, List.getElem?_eq_getElem hk]; rfl
theorem SE.st_cell {w V : World} {g N li ci ls cs : Nat} {ai az : Option Addr} {x : Packed} {ins st : List Bool} (h : SE w g N x ins st (.slice ai li ci) (.slice az ls cs) V) (hl : st.length ≤ 1000000) {k : Nat} (hk : k < st.length) : ∃ b o, az = some ⟨b, o, none⟩ ∧ ls ≤ cs ∧ V.cell? ⟨b, o + k, none⟩ = some (.int .i64 (b2i (st.getD k false))) := by
  refine h.gs.cells (by rw [List.length_map]; omega) (q := k) (j := b2i (st.getD k false)) ?_
  rw [List.getElem?_map, List.getElem?_eq_getElem hk, List.getD_eq_getElem?_getD, List.getElem?_eq_getElem hk]; rfl
theorem SE.memo {w V : World} {g N : Nat} {vi vs : Value} {x : Packed} {ins st : List Bool} (h : SE w g N x ins st vi vs V) {s : Nat} (hs : s < N) : V.frozen? ⟨g, s, none⟩ = false ∧ (V.cell? ⟨g, s, none⟩ = some (.int .i64 0) ∨ V.cell? ⟨g, s, none⟩ = some (.int .i64 (1 + b2i (valP x.blocks ins st (s : Int))))) := by
  obtain ⟨m, h1, h2, h3⟩ := h.mem
  have hx : m[s]? = some (m[s]'(by omega)) := List.getElem?_eq_getElem _
  obtain ⟨c1, c2⟩ := h2.at_ s _ hx
  refine ⟨c2, ?_⟩
  rcases h3 s _ hx with e | e
  · rw [e] at c1; exact .inl c1
  · rw [e] at c1; exact .inr c1
set_option maxHeartbeats 32000000 in
theorem sValueR {s0 s1 s2 s3 s4 : Option Addr} {l0 c0 l1 c1 l2 c2 l3 c3 l4 c4 : Nat} {g N li ci ls cs : Nat} {ai az : Option Addr} (x : Packed) (ins st : List Bool) (w : World) (hx : PkFit x) (hl0 : l0 = x.ins.length) (hli : ins.length = x.ins.length) (hls : st.length = x.blocks.length) (hN : N = x.ins.length + x.blocks.length) (h2 : RS 6 RBlock w 0 x.blocks (.slice s2 l2 c2)) :
    ∀ (r : Nat) (y : Int), 0 ≤ y → y < (N : Int) → (∀ k : Nat, y = (x.ins.length : Int) + (k : Int) → (x.blocks.getD k blk0).reg = false → k < r) → ∀ V, SE w g N x ins st (.slice ai li ci) (.slice az ls cs) V → Calls Tryz.prog 26 #[.agg #[.slice s0 l0 c0, .slice s1 l1 c1, .slice s2 l2 c2, .slice s3 l3 c3, .slice s4 l4 c4], .int .i64 y, .slice ai li ci, .slice az ls cs, .slice (some ⟨g, 0, none⟩) N N] V fun e w' => e = .returned (.int .i64 (b2i (valP x.blocks ins st y))) ∧ SE w g N x ins st (.slice ai li ci) (.slice az ls cs) w' ∧ Fx g V w' := by
  intro r
  induction r using Nat.strongRecOn with
  | _ r ih =>
  intro y hy0 hyN hrk V hV
  have hn0 := hx.n0
  have hn2 := hx.n2
  have hlt := hV.lt
  have hln : li = ins.length := by
    obtain ⟨a, c, hv⟩ := hV.gi.shapeN
    injection hv with e1 e2 e3
    rw [e2, List.length_map]
  have hlz : ls = st.length := by
    obtain ⟨a, c, hv⟩ := hV.gs.shapeN
    injection hv with e1 e2 e3
    rw [e2, List.length_map]
  obtain ⟨W1, hW1⟩ : ∃ W, W = V.alloc (.cells #[.slice s0 l0 c0, .slice s1 l1 c1, .slice s2 l2 c2, .slice s3 l3 c3, .slice s4 l4 c4] 36) := ⟨_, rfl⟩
  have hb1 : Below V.heap.size V W1 := by rw [hW1]; exact bal (brf V) _
  have hS1 := hV.later hb1
  have HP1 : Hid (∀ U, Fx g W1 U → U.cell? ⟨V.heap.size, 0, none⟩ = some (.slice s0 l0 c0) ∧ U.cell? ⟨V.heap.size, 1, none⟩ = some (.slice s1 l1 c1) ∧ U.cell? ⟨V.heap.size, 2, none⟩ = some (.slice s2 l2 c2) ∧ U.cell? ⟨V.heap.size, 3, none⟩ = some (.slice s3 l3 c3) ∧ U.cell? ⟨V.heap.size, 4, none⟩ = some (.slice s4 l4 c4)) := hide (fun U hU => by
    have hc : ∀ i v, (#[.slice s0 l0 c0, .slice s1 l1 c1, .slice s2 l2 c2, .slice s3 l3 c3, .slice s4 l4 c4] : Array Value)[i]? = some v → W1.cell? ⟨V.heap.size, i, none⟩ = some v := fun i v h => by
      rw [hW1, World.cell?_alloc_new]; exact h
    exact ⟨hU.cell (hc 0 _ rfl) (by omega), hU.cell (hc 1 _ rfl) (by omega), hU.cell (hc 2 _ rfl) (by omega), hU.cell (hc 3 _ rfl) (by omega), hU.cell (hc 4 _ rfl) (by omega)⟩)
  have HF1 : Hid (Fx g V W1) := hide (Fx.of hb1)
  have HWE := hide hW1
  obtain ⟨q0, q1, q2, q3, q4⟩ := unhide HP1 W1 (Fx.refl _ _)
  by_cases hin : y < (x.ins.length : Int)
  · obtain ⟨k, rfl⟩ : ∃ k : Nat, y = (k : Int) := ⟨y.toNat, by omega⟩
    have hval : valP x.blocks ins st (k : Int) = ins.getD k false := by
      unfold valP srcP
      rw [if_pos (by rw [hli]; exact hin), Int.toNat_natCast]
    obtain ⟨b, o, rfl, hcap, hcell⟩ := hS1.in_cell (by omega) (k := k) (by omega)
    rw [hval]
    have HS := hide hS1
    generalize ins.getD k false = z at *
    have i0 : (0 : Int) ≤ (k : Int) := by omega
    have i1 : (k : Int) < (l0 : Int) := by omega
    have i2 : (k : Int) < (li : Int) := by omega
    have HWE2 := unhide HWE
    clear hval hV hS1 hb1 hW1 ih hrk h2 hx hl0 hli hls hN hln hlz hin hy0 hyN hlt hn0 hn2
    subst HWE2
    go_enter Tryz.func26, Tryz.ntmps26
    go_wp2_with fail
    exact bodyPost_ret (v := .int .i64 (b2i z)) (by simp [results, Tryz.results26, go_sem]) rfl ⟨rfl, unhide HS, unhide HF1⟩
  · obtain ⟨k, rfl⟩ : ∃ k : Nat, y = (x.ins.length : Int) + (k : Int) := ⟨(y - (x.ins.length : Int)).toNat, by omega⟩
    have hk : k < x.blocks.length := by omega
    have hbk := getD_some hk
    obtain ⟨Y, hY⟩ : ∃ Y : Nat, Y = x.ins.length + k := ⟨_, rfl⟩
    have hYe : (x.ins.length : Int) + (k : Int) = (Y : Int) := by omega
    have hval : valP x.blocks ins st (Y : Int) = if (x.blocks.getD k blk0).reg then st.getD k false else (blkV x.blocks ins st x.blocks.length).getD k false := by
      unfold valP srcP
      rw [if_neg (by omega), show ((Y : Int) - (ins.length : Int)).toNat = k by omega]
    have htab := fun h => valP_tab (ins := ins) (st := st) (h := by rw [hli]; exact hx.fit) hbk h
    have hblk := hx.blk _ (getD_mem hk)
    have hsrc : ∀ z ∈ (x.blocks.getD k blk0).inp, 0 ≤ z ∧ z < (N : Int) := fun z hz => by rw [hN]; exact hx.fit.src k _ hbk z hz
    have hahd := fun h => hx.fit.ahead k _ hbk h
    have hrk' := hrk k rfl
    rw [hYe]
    clear hrk hin hy0 hyN
    generalize x.blocks.getD k blk0 = b at *
    obtain ⟨b2, o2, a1, d1, hs2, hcap, hl2, hcell, hrin, hnm⟩ := block_cells h2 hbk
    subst hs2
    have hbw := hS1.below
    have z0 := cell_later hbw (hcell 0 _ rfl)
    have z1 := cell_later hbw (hcell 1 _ rfl)
    have z2 := cell_later hbw (hcell 2 _ rfl)
    have z3 := cell_later hbw (hcell 3 _ rfl)
    have z4 := cell_later hbw (hcell 4 _ rfl)
    have z5 := cell_later hbw (hcell 5 _ rfl)
    simp only [Nat.add_zero] at z0
    obtain ⟨W2, hW2⟩ : ∃ W, W = W1.alloc (.cells #[.string b.name, .slice a1 b.inp.length d1, .int .i64 b.table, .bool b.reg, .int .i64 b.init, .int .i64 b.clock] 66) := ⟨_, rfl⟩
    have hb2 : Below W1.heap.size W1 W2 := by rw [hW2]; exact bal (brf W1) _
    have hS2 := hS1.later hb2
    have HF2 : Hid (Fx g V W2) := hide ((unhide HF1).trans (Fx.of hb2))
    obtain ⟨p0, p1, p2, p3, p4⟩ := unhide HP1 W2 (Fx.of hb2)
    have hsz1 : W1.heap.size = V.heap.size + 1 := by rw [hW1]; simp
    have hc2 : ∀ i v, (#[.string b.name, .slice a1 b.inp.length d1, .int .i64 b.table, .bool b.reg, .int .i64 b.init, .int .i64 b.clock] : Array Value)[i]? = some v → W2.cell? ⟨V.heap.size + 1, i, none⟩ = some v := fun i v h => by
      rw [hW2, ← hsz1, World.cell?_alloc_new]; exact h
    have t0 := hc2 0 _ rfl
    have t1 := hc2 1 _ rfl
    have t2 := hc2 2 _ rfl
    have t3 := hc2 3 _ rfl
    have t4 := hc2 4 _ rfl
    have t5 := hc2 5 _ rfl
    have HWE2 : Hid (W2 = (V.alloc (.cells #[.slice s0 l0 c0, .slice s1 l1 c1, .slice (some ⟨b2, o2, none⟩) l2 c2, .slice s3 l3 c3, .slice s4 l4 c4] 36)).alloc (.cells #[.string b.name, .slice a1 b.inp.length d1, .int .i64 b.table, .bool b.reg, .int .i64 b.init, .int .i64 b.clock] 66)) := hide (by rw [hW2, hW1])
    have e1 : (Y : Int) - (l0 : Int) = (k : Int) := by omega
    have e2 : ¬ ((Y : Int) < (l0 : Int)) := by omega
    have i0 : (0 : Int) ≤ (k : Int) := by omega
    have i1 : (k : Int) < (l2 : Int) := by omega
    have i2 : (k : Int) < (ls : Int) := by omega
    have i3 : (Y : Int) < (N : Int) := by omega
    have i4 : (0 : Int) ≤ (Y : Int) := by omega
    have i5 : k ≤ 512 := by omega
    have i6 : Y ≤ 4096 := by omega
    cases hreg : b.reg
    · have hm := hS2.memo (s := Y) (by omega)
      have hvt : valP x.blocks ins st (Y : Int) = lookF (valP x.blocks ins st) b := by rw [hval, hreg, htab hreg]; rfl
      have HLK := hide (sLook (s0 := s0) (s1 := s1) (s2 := some ⟨b2, o2, none⟩) (s3 := s3) (s4 := s4) (l0 := l0) (l1 := l1) (l2 := l2) (l3 := l3) (l4 := l4) (c0 := c0) (c1 := c1) (c2 := c2) (c3 := c3) (c4 := c4) (g := g) (N := N) (li := li) (ci := ci) (ls := ls) (cs := cs) (ai := ai) (az := az) (a := a1) (d := d1) x ins st w b rfl hrin hblk.1 hblk.2.1 hblk.2.2 (hide (fun z hz U hU => by
        obtain ⟨z0', z1'⟩ := hsrc z hz
        refine ih k (hrk' hreg) z z0' z1' (fun k' hk' hr' => ?_) U hU
        by_cases hc : k' < k
        · exact hc
        · have := hahd hreg z hz (by omega)
          rw [show (z - (x.ins.length : Int)).toNat = k' by omega, hr'] at this
          cases this)) W2 hS2)
      rw [← hvt] at HLK
      have HS := hide hS2
      obtain ⟨hfz, hm⟩ := hm
      rw [hreg] at HLK HWE2 t3 z3
      clear hval hvt htab hblk hsrc hahd hrk' hV hS1 hS2 hb1 hb2 hW1 hW2 ih h2 hx hli hls hN hln hlz hlt hn0 hn2 hcell hrin hbw hc2 hsz1 hbk hreg hYe hY hl0 hl2
      have HPUT : Hid (∀ U, SE w g N x ins st (.slice ai li ci) (.slice az ls cs) U → SE w g N x ins st (.slice ai li ci) (.slice az ls cs) (U.setCell ⟨g, Y, none⟩ (.int .i64 (b2i (valP x.blocks ins st (Y : Int)) + 1)))) := hide (fun U hU => by rw [Int.add_comm]; exact hU.put)
      have HMEM : Hid (∀ U, SE w g N x ins st (.slice ai li ci) (.slice az ls cs) U → ∃ v, U.cell? ⟨g, Y, none⟩ = some v ∧ U.frozen? ⟨g, Y, none⟩ = false) := hide (fun U hU => by
        obtain ⟨h1, h2 | h2⟩ := hU.memo (s := Y) (by omega)
        · exact ⟨_, h2, h1⟩
        · exact ⟨_, h2, h1⟩)
      have hzr := b2i_range (valP x.blocks ins st (Y : Int))
      generalize b2i (valP x.blocks ins st (Y : Int)) = zi at *
      have HWX := unhide HWE
      subst HWX
      have HWY := unhide HWE2
      clear t0 t1 t2 t3 t4 t5
      subst HWY
      rcases hm with hm | hm
      · go_enter Tryz.func26, Tryz.ntmps26
        go_wp2_with fail
        refine (unhide HLK).mono ?_
        rintro e U ⟨rfl, hse, hfx⟩
        obtain ⟨v0, hv0, hfz0⟩ := unhide HMEM U hse
        have H1 := hide (unhide HPUT U hse)
        have H2 := hide ((unhide HF2).trans (hfx.trans (Fx.set g Y U (.int .i64 (zi + 1)))))
        clear hse hfx HLK HPUT HMEM hm HS HF2 HP1 HF1 HWE HWE2 p0 p1 p2 p3 p4 q0 q1 q2 q3 q4 z0 z1 z2 z3 z4 z5 hfz
        go_wp2_with fail
        exact bodyPost_ret (v := .int .i64 zi) (by simp [results, Tryz.results26, go_sem]) rfl ⟨rfl, unhide H1, unhide H2⟩
      · have hm1 : decide ((0 : Int) < 1 + zi) = true := decide_eq_true (by omega)
        have hm2 : (1 + zi) - 1 = zi := by omega
        go_enter Tryz.func26, Tryz.ntmps26
        go_wp2_with fail
        exact bodyPost_ret (v := .int .i64 zi) (by simp [results, Tryz.results26, go_sem]) rfl ⟨rfl, unhide HS, unhide HF2⟩
    · have hvt : valP x.blocks ins st (Y : Int) = st.getD k false := by rw [hval, hreg]; rfl
      obtain ⟨bz, oz, rfl, hcz, hcz2⟩ := hS2.st_cell (by omega) (k := k) (by omega)
      rw [hvt]
      have HS := hide hS2
      rw [hreg] at t3 z3 HWE2
      generalize st.getD k false = z at *
      have HWX := unhide HWE
      clear hval hvt htab hblk hsrc hahd hrk' hV hS1 hS2 hb1 hb2 hW1 hW2 ih h2 hx hli hls hN hln hlz hlt hn0 hn2 hcell hrin hbw hc2 hsz1 hbk hreg hYe hY hl0 hl2
      subst HWX
      have HWY := unhide HWE2
      clear t0 t1 t2 t3 t4 t5
      subst HWY
      go_enter Tryz.func26, Tryz.ntmps26
      go_wp2_with fail
      exact bodyPost_ret (v := .int .i64 (b2i z)) (by simp [results, Tryz.results26, go_sem]) rfl ⟨rfl, unhide HS, unhide HF2⟩
end Go.Proofs.YtdmmbhemmbgcpabGreat
namespace Go.Proofs.YtdmmbhemmbgcpabGreat
open Go Go.RowKit Gs
set_option linter.unusedVariables false
set_option linter.unusedSimpArgs false
set_option maxRecDepth 100000
theorem OI.atC {B : Nat} {v : Value} {xs : List Int} {W : World} (h : OI B W v xs) (hne : 0 < xs.length) : ∃ g c, v = .slice (some ⟨g, 0, none⟩) xs.length c ∧ ∀ (i : Nat) y, xs[i]? = some y → W.cell? ⟨g, i, none⟩ = some (.int .i64 y) := by
  have hc := fun g hg => World.ownsRow.cells h (g := g) hg
  rcases h.2 with ⟨rfl, hn⟩ | ⟨g, cap, cur, rfl, hb, hg, hlc, hm, _⟩
  · omega
  · refine ⟨g, cap, rfl, fun i y hy => ?_⟩
    have := hc g rfl i (.int .i64 y) (by rw [List.getElem?_map, hy]; rfl)
    rw [Addr.add_lit] at this
    simpa using this
/-- A cell of a row that is made. -/
def RC (W : World) (q i : Nat) (y : Value) : Prop := W.cell? ⟨q, i, none⟩ = some y ∧ W.frozen? ⟨q, i, none⟩ = false
theorem row_step {q N j : Nat} {W wr V V' : World} {tv v : Value} {acc : List ByteArray} (hN : N = W.heap.size) (hq : q < N) (hfx : Fx q W wr) (hcj : RC wr q j tv) (hoth : ∀ i y, i ≠ j → RC W q i y → RC wr q i y) (hOT : OT N V' v acc) (hlow : Below N wr V') (hV : V = V'.setCell ⟨q, j, none⟩ v) :
    OT N V v acc ∧ Fx q W V ∧ RC V q j v ∧ (∀ i y, i ≠ j → RC W q i y → RC V q i y) := by
  have h1 : Fx q W V' := ⟨hlow.os.trans hfx.os, hlow.tape.trans hfx.tape, hlow.output.trans hfx.output, Nat.le_trans hfx.size hlow.size, fun i hi hne => (hlow.block i (by omega)).trans (hfx.block i hi hne)⟩
  have ec := fun i => hlow.cell (p := ⟨q, i, none⟩) (by show q < _; omega)
  have ef := fun i => hlow.frozen (p := ⟨q, i, none⟩) (by show q < _; omega)
  subst hV
  refine ⟨hOT.fx (Fx.set _ _ _ _) (fun e => by have := hOT.row _ e; omega), h1.trans (Fx.set _ _ _ _), ⟨sameCell _ _ _ _ ((ec j).trans hcj.1), by rw [frozSet]; exact (ef j).trans hcj.2⟩, fun i y hne hy => ?_⟩
  have := hoth i y hne hy
  exact ⟨otherCell _ _ _ _ ((ec i).trans this.1) (.inr hne), by rw [frozSet]; exact (ef i).trans this.2⟩
end Go.Proofs.YtdmmbhemmbgcpabGreat
namespace Go.Proofs.YtdmmbhemmbgcpabGreat
open Go Go.RowKit Gs
set_option linter.unusedVariables false
set_option linter.unusedSimpArgs false
set_option maxRecDepth 100000
def portsL (k : Nat) : List Value := (List.replicate k [Value.string ⟨#[]⟩, .int .i64 1]).flatten
theorem portsL_len (k : Nat) : (portsL k).length = k * 2 := by
  unfold portsL
  induction k with
  | zero => rfl
  | succ k ih => rw [List.replicate_succ, List.flatten_cons, List.length_append, ih]; simp; omega
theorem portsL_succ (k : Nat) : portsL (k + 1) = portsL k ++ [Value.string ⟨#[]⟩, .int .i64 1] := by
  unfold portsL
  rw [List.replicate_succ', List.flatten_append]; rfl
theorem portsL_get : ∀ (k i : Nat), i < k → (portsL k)[i * 2 + 1]? = some (.int .i64 1)
  | 0, i, h => by omega
  | k + 1, i, h => by
    rw [portsL_succ]
    by_cases e : i < k
    · rw [List.getElem?_append_left (by rw [portsL_len]; omega)]; exact portsL_get k i e
    · obtain rfl : i = k := by omega
      rw [List.getElem?_append_right (by rw [portsL_len]; omega), portsL_len]
      have : i * 2 + 1 - i * 2 = 1 := by omega
      rw [this]; rfl
theorem info62 : (Tryz.prog.info? 62).map (fun i => (i.zero, i.size, i.bytes)) = some (some (.agg #[.string ByteArray.empty, .int .i64 0]), 2, 24) := by kernel_rfl
theorem own_fxg {W W' : World} {B n q e sz : Nat} {v : Value} {xs : List Value} (h : W.ownsRow B e sz v n xs) (hf : Fx q W W') (hq : q < B) : W'.ownsRow B e sz v n xs := by
  obtain ⟨h1, h2 | ⟨g, cap, cur, hv, hb, hc, rest⟩⟩ := h
  · exact ⟨h1, .inl h2⟩
  · exact ⟨h1, .inr ⟨g, cap, cur, hv, hb, (hf.block g (Array.getElem?_eq_some_iff.1 hc).1 (by omega)).trans hc, rest⟩⟩
theorem own_shape {W : World} {B n e sz : Nat} {v : Value} {xs : List Value} (h : W.ownsRow B e sz v n xs) : ∃ a c, v = .slice a n c := by
  rcases h.2 with ⟨rfl, rfl⟩ | ⟨g, cap, cur, rfl, _⟩
  · exact ⟨_, _, rfl⟩
  · exact ⟨_, _, rfl⟩
theorem newP (W : World) (x y : Value) (g : Nat) (hg : g = W.heap.size) : ∀ j u, [x, y][j]? = some u → (W.alloc (.cells #[x, y] 62)).cell? ((⟨g, 0, none⟩ : Addr).add j) = some u := by
  intro j u h
  subst hg
  match j, h with
  | 0, h => simp at h; subst h; simp [Addr.add]
  | 1, h => simp at h; subst h; simp [Addr.add]
  | j + 2, h => simp at h
theorem oneP : ∀ u ∈ [Value.string ⟨#[]⟩, .int .i64 1], u.oneCell' = true := by
  intro u hu; simp at hu; rcases hu with rfl | rfl <;> rfl
theorem row_stepg {q N j e sz n : Nat} {W wr V V' : World} {tv v : Value} {xs : List Value} (hN : N = W.heap.size) (hq : q < N) (hfx : Fx q W wr) (hcj : RC wr q j tv) (hoth : ∀ i y, i ≠ j → RC W q i y → RC wr q i y) (hOT : V'.ownsRow N e sz v n xs) (hlow : Below N wr V') (hV : V = V'.setCell ⟨q, j, none⟩ v) :
    V.ownsRow N e sz v n xs ∧ Fx q W V ∧ RC V q j v ∧ (∀ i y, i ≠ j → RC W q i y → RC V q i y) := by
  have h1 : Fx q W V' := ⟨hlow.os.trans hfx.os, hlow.tape.trans hfx.tape, hlow.output.trans hfx.output, Nat.le_trans hfx.size hlow.size, fun i hi hne => (hlow.block i (by omega)).trans (hfx.block i hi hne)⟩
  have ec := fun i => hlow.cell (p := ⟨q, i, none⟩) (by show q < _; omega)
  have ef := fun i => hlow.frozen (p := ⟨q, i, none⟩) (by show q < _; omega)
  subst hV
  refine ⟨own_fxg hOT (Fx.set _ _ _ _) hq, h1.trans (Fx.set _ _ _ _), ⟨sameCell _ _ _ _ ((ec j).trans hcj.1), by rw [frozSet]; exact (ef j).trans hcj.2⟩, fun i y hne hy => ?_⟩
  have := hoth i y hne hy
  exact ⟨otherCell _ _ _ _ ((ec i).trans this.1) (.inr hne), by rw [frozSet]; exact (ef i).trans this.2⟩
set_option maxHeartbeats 16000000 in
theorem sL1 {u0 u1 u3 u4 u5 u8 u9 u10 u11 u12 u13 u14 u15 u16 u17 u18 u19 u20 u21 u22 u23 u24 u25 u26 u27 u28 u29 u30 u31 u32 u33 u34 u35 u36 u37 u38 u39 u40 u41 u42 u43 u44 u45 u46 u47 u48 u49 u50 u51 u52 u53 u54 u55 u56 u57 u58 u59 u60 u61 u62 u63 u64 u65 u66 u67 u68 u69 u70 u71 u72 u73 u74 u75 u76 u77 u78 u79 u80 u81 u82 u83 u84 u85 u86 u87 u88 u89 u90 u91 u92 u93 u94 u95 u96 u97 u98 u99 u100 u101 u102 u103 u104 u105 u106 u107 u108 u109 u110 u111 u112 u113 u114 u115 u116 u117 u118 u119 u120 u121 u122 u123 u124 u125 u126 u127 u128 u129 u130 u131 u132 u133 u134 u135 u136 u137 u138 u139 u140 u141 u142 u143 u144 u145 u146 u147 u148 u149 u150 u151 u152 u153 u154 u155 u156 u157 u158 u159 u160 u161 u162 u163 u164 u165 u166 u167 u168 u169 u170 u171 u172 u173 u174 u175 u176 u177 u178 u179 u180 u181 u182 u183 u184 u185 u186 u187 u188 u189 u190 u191 u192 u193 u194 u195 u196 u197 u198 u199 u200 u201 u202 u203 u204 u205 u206 u207 u208 u209 u210 u211 u212 u213 u214 u215 u216 u217 u218 u219 u220 u221 u222 u223 u224 u225 u226 u227 : Value} {pb q l0 c0 : Nat} {s0 : Option Addr} {W3 W : World} {Q : Exit → Act → World → Prop} (hnb : l0 ≤ 1048576) (HBX : Hid (∀ V, Below W3.heap.size W3 V → V.cell? ⟨pb, 0, none⟩ = some (.slice s0 l0 c0)))
    (HB3 : Hid (Below W3.heap.size W3 W)) (hq3 : W3.heap.size ≤ q) (hqW : q < W.heap.size) (HC : Hid (RC W q 0 (.slice none 0 0)))
    (hQ : ∀ (z7 z33 z34 z35 z36 z37 z38 z39 z40 z41 z42 z43 z44 z45 : Value) V v, V.ownsRow W.heap.size 62 2 v l0 (portsL l0) → Fx q W V → RC V q 0 v → (∀ i y, i ≠ 0 → RC W q i y → RC V q i y) → Q (.exit 0) { tmps := (u0 :: u1 :: .pointer (some ⟨pb, 0, none⟩) :: u3 :: u4 :: u5 :: .pointer (some ⟨q, 0, none⟩) :: z7 :: u8 :: u9 :: u10 :: u11 :: u12 :: u13 :: u14 :: u15 :: u16 :: u17 :: u18 :: u19 :: u20 :: u21 :: u22 :: u23 :: u24 :: u25 :: u26 :: u27 :: u28 :: u29 :: u30 :: u31 :: u32 :: z33 :: z34 :: z35 :: z36 :: z37 :: z38 :: z39 :: z40 :: z41 :: z42 :: z43 :: z44 :: z45 :: u46 :: u47 :: u48 :: u49 :: u50 :: u51 :: u52 :: u53 :: u54 :: u55 :: u56 :: u57 :: u58 :: u59 :: u60 :: u61 :: u62 :: u63 :: u64 :: u65 :: u66 :: u67 :: u68 :: u69 :: u70 :: u71 :: u72 :: u73 :: u74 :: u75 :: u76 :: u77 :: u78 :: u79 :: u80 :: u81 :: u82 :: u83 :: u84 :: u85 :: u86 :: u87 :: u88 :: u89 :: u90 :: u91 :: u92 :: u93 :: u94 :: u95 :: u96 :: u97 :: u98 :: u99 :: u100 :: u101 :: u102 :: u103 :: u104 :: u105 :: u106 :: u107 :: u108 :: u109 :: u110 :: u111 :: u112 :: u113 :: u114 :: u115 :: u116 :: u117 :: u118 :: u119 :: u120 :: u121 :: u122 :: u123 :: u124 :: u125 :: u126 :: u127 :: u128 :: u129 :: u130 :: u131 :: u132 :: u133 :: u134 :: u135 :: u136 :: u137 :: u138 :: u139 :: u140 :: u141 :: u142 :: u143 :: u144 :: u145 :: u146 :: u147 :: u148 :: u149 :: u150 :: u151 :: u152 :: u153 :: u154 :: u155 :: u156 :: u157 :: u158 :: u159 :: u160 :: u161 :: u162 :: u163 :: u164 :: u165 :: u166 :: u167 :: u168 :: u169 :: u170 :: u171 :: u172 :: u173 :: u174 :: u175 :: u176 :: u177 :: u178 :: u179 :: u180 :: u181 :: u182 :: u183 :: u184 :: u185 :: u186 :: u187 :: u188 :: u189 :: u190 :: u191 :: u192 :: u193 :: u194 :: u195 :: u196 :: u197 :: u198 :: u199 :: u200 :: u201 :: u202 :: u203 :: u204 :: u205 :: u206 :: u207 :: u208 :: u209 :: u210 :: u211 :: u212 :: u213 :: u214 :: u215 :: u216 :: u217 :: u218 :: u219 :: u220 :: u221 :: u222 :: u223 :: u224 :: u225 :: u226 :: u227 :: []).toArray, defers := [] } V) :
    Code.wp Tryz.prog (atB 0 (bodyOf Tryz.f6)) Q { tmps := (u0 :: u1 :: .pointer (some ⟨pb, 0, none⟩) :: u3 :: u4 :: u5 :: .pointer (some ⟨q, 0, none⟩) :: .int .i64 0 :: u8 :: u9 :: u10 :: u11 :: u12 :: u13 :: u14 :: u15 :: u16 :: u17 :: u18 :: u19 :: u20 :: u21 :: u22 :: u23 :: u24 :: u25 :: u26 :: u27 :: u28 :: u29 :: u30 :: u31 :: u32 :: u33 :: u34 :: u35 :: u36 :: u37 :: u38 :: u39 :: u40 :: u41 :: u42 :: u43 :: u44 :: u45 :: u46 :: u47 :: u48 :: u49 :: u50 :: u51 :: u52 :: u53 :: u54 :: u55 :: u56 :: u57 :: u58 :: u59 :: u60 :: u61 :: u62 :: u63 :: u64 :: u65 :: u66 :: u67 :: u68 :: u69 :: u70 :: u71 :: u72 :: u73 :: u74 :: u75 :: u76 :: u77 :: u78 :: u79 :: u80 :: u81 :: u82 :: u83 :: u84 :: u85 :: u86 :: u87 :: u88 :: u89 :: u90 :: u91 :: u92 :: u93 :: u94 :: u95 :: u96 :: u97 :: u98 :: u99 :: u100 :: u101 :: u102 :: u103 :: u104 :: u105 :: u106 :: u107 :: u108 :: u109 :: u110 :: u111 :: u112 :: u113 :: u114 :: u115 :: u116 :: u117 :: u118 :: u119 :: u120 :: u121 :: u122 :: u123 :: u124 :: u125 :: u126 :: u127 :: u128 :: u129 :: u130 :: u131 :: u132 :: u133 :: u134 :: u135 :: u136 :: u137 :: u138 :: u139 :: u140 :: u141 :: u142 :: u143 :: u144 :: u145 :: u146 :: u147 :: u148 :: u149 :: u150 :: u151 :: u152 :: u153 :: u154 :: u155 :: u156 :: u157 :: u158 :: u159 :: u160 :: u161 :: u162 :: u163 :: u164 :: u165 :: u166 :: u167 :: u168 :: u169 :: u170 :: u171 :: u172 :: u173 :: u174 :: u175 :: u176 :: u177 :: u178 :: u179 :: u180 :: u181 :: u182 :: u183 :: u184 :: u185 :: u186 :: u187 :: u188 :: u189 :: u190 :: u191 :: u192 :: u193 :: u194 :: u195 :: u196 :: u197 :: u198 :: u199 :: u200 :: u201 :: u202 :: u203 :: u204 :: u205 :: u206 :: u207 :: u208 :: u209 :: u210 :: u211 :: u212 :: u213 :: u214 :: u215 :: u216 :: u217 :: u218 :: u219 :: u220 :: u221 :: u222 :: u223 :: u224 :: u225 :: u226 :: u227 :: []).toArray, defers := [] } W := by
  have HQ := hide hQ
  clear hQ
  obtain ⟨i0, hi, hz0, hz1, hz2⟩ := info_parts info62
  have HI := hide (And.intro hi (And.intro hz0 (And.intro hz1 hz2)))
  clear hi hz0 hz1 hz2
  conv => arg 2; whnf
  go_loopw [7] (fun i wr => ∃ (k : Nat) (tv : Value), k ≤ l0 ∧ i = .int .i64 k ∧ wr.ownsRow W.heap.size 62 2 tv k (portsL k) ∧ Fx q W wr ∧ RC wr q 0 tv ∧ (∀ i y, i ≠ 0 → RC W q i y → RC wr q i y)) (fun i wr => l0 - (intOf i).toNat)
  case atStart => exact ⟨0, _, Nat.zero_le _, rfl, World.ownsRow_nil _ _ _ _, Fx.refl _ _, unhide HC, fun _ _ _ h => h⟩
  case round =>
    obtain ⟨k, tv, hk, rfl, hot, hfx, hcj, hoth⟩ := hrel
    have hb := hfx.below (unhide HB3) hq3 (unhide HB3).size
    have q0 := unhide HBX wr hb
    by_cases hlt : k < l0
    · obtain ⟨ta, tc, rfl⟩ := own_shape hot
      have cq0 := hcj.1
      have HOT := hide hot
      have HFX := hide hfx
      have HCJ := hide hcj
      have HOTH := hide hoth
      have HSZ := hide hfx.size
      have i2 : (k : Int) < (l0 : Int) := by omega
      clear hot hfx hcj hoth hb
      go_wp2_with (first
        | (at_builtin; refine wpList_append_own _ rfl _ _ 55 rfl W.heap.size 62 i0 (.agg #[.string ByteArray.empty, .int .i64 0]) 2 24 Tryz.underlying55 (unhide HI).1 (unhide HI).2.1 (unhide HI).2.2.1 (unhide HI).2.2.2 rfl (by decide) _ _ _ rfl ((unhide HOT).alloc _) ⟨wr.heap.size, 0, none⟩ 1 1 [.string ⟨#[]⟩, .int .i64 1] rfl rfl (newP _ _ _ _ rfl) oneP (by unfold maxLen; omega) (by omega) (by have := unhide HSZ; simp; omega) ?_; intro v' w2 hown' hgrow _; have hlow := ((bal (brf wr) (.cells #[.string ⟨#[]⟩, .int .i64 1] 62)).mono (unhide HSZ)).trans (below_grown (Below.refl W.heap.size (wr.alloc (.cells #[.string ⟨#[]⟩, .int .i64 1] 62))) hgrow (by have := unhide HSZ; simp; omega) (fun j hj => (World.ownsRow.lt (unhide HOT) j hj).1)); have d0 := (hlow.cell (p := ⟨q, 0, none⟩) hqW).trans (unhide HCJ).1; have f0 := (hlow.frozen (p := ⟨q, 0, none⟩) hqW).trans (unhide HCJ).2; obtain ⟨ta', tc', rfl⟩ := own_shape hown'; have HOW := hide hown'; have HLOW := hide hlow; clear hown' hgrow hlow)
        | go_in)
      have HR := hide (row_stepg (xs := portsL (k + 1)) rfl hqW (unhide HFX) (unhide HCJ) (unhide HOTH) (by rw [portsL_succ]; exact unhide HOW) (unhide HLOW) rfl)
      go_roundw
      case rel => exact ⟨k + 1, _, by omega, by go_num, unhide HR⟩
      case measure => simp [intOf]; omega
    · obtain rfl : k = l0 := by omega
      have HOT := hide hot
      have HFX := hide hfx
      have HCJ := hide hcj
      have HOTH := hide hoth
      clear hot hfx hcj hoth hb
      go_wp2_with fail
      exact unhide HQ _ _ _ _ _ _ _ _ _ _ _ _ _ _ wr tv (unhide HOT) (unhide HFX) (unhide HCJ) (unhide HOTH)
end Go.Proofs.YtdmmbhemmbgcpabGreat
