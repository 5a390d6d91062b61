/- The specification's values of a packed design: l15Look. -/
import Derived.Test.YtdmmbhemmbgcpabGreatGQ9
namespace Go.Proofs.YtdmmbhemmbgcpabGreat
open Go Go.RowKit Gs
set_option linter.unusedVariables false
set_option linter.unusedSimpArgs false
set_option maxRecDepth 100000
section
variable {P : Program} {ops : Array Oper} {a0 : Act} {F : Nat → Value → Prop} {M : World → Prop}
/-- A plan for a region all of whose operations keep one fact of the world. -/
abbrev JM (M : World → Prop) : Array Bool → World → Prop := fun _ w => M w
theorem sm_val {k : Nat} {o : Oper} (hg : o.guard = none) (h : ∀ l a w, PA ops (GF F) (JM M) a0 l a w → M w → (∀ e ∈ o.after, Region.binds .any e = true → l.getD e.on false = true) → ∃ x, (execOp a.eval o).run P w = .ok (.value x) w ∧ F k x) : Stp P ops (GF F) (JM M) a0 k o := by
  intro l a w hp hu ha
  obtain ⟨x, hr, hf⟩ := h l a w hp hp.j ha
  unfold opW
  rw [if_pos (wanted_none hg)]
  exact .inl ⟨x, w, hr, x, rfl, hp.j, hf, fun _ _ _ _ h => h⟩
theorem sm_valu {k : Nat} {o : Oper} (hg : o.guard = none) (h : ∀ l a w, PA ops (GF F) (JM M) a0 l a w → l.getD k true = false → M w → (∀ e ∈ o.after, Region.binds .any e = true → l.getD e.on false = true) → ∃ x, (execOp a.eval o).run P w = .ok (.value x) w ∧ F k x) : Stp P ops (GF F) (JM M) a0 k o := by
  intro l a w hp hu ha
  obtain ⟨x, hr, hf⟩ := h l a w hp hu hp.j ha
  unfold opW
  rw [if_pos (wanted_none hg)]
  exact .inl ⟨x, w, hr, x, rfl, hp.j, hf, fun _ _ _ _ h => h⟩
theorem sm_call {k : Nat} {o : Oper} {f : FuncId} (hg : o.guard = none) (h : ∀ l a w, PA ops (GF F) (JM M) a0 l a w → M w → (∀ e ∈ o.after, Region.binds .any e = true → l.getD e.on false = true) → ∃ args, (execOp a.eval o).run P w = .ok (.enter f args) w ∧ Calls P f args w fun e w' => ∃ x, e = .returned x ∧ F k x ∧ M w') : Stp P ops (GF F) (JM M) a0 k o := by
  intro l a w hp hu ha
  obtain ⟨args, hr, hc⟩ := h l a w hp hp.j ha
  unfold opW
  rw [if_pos (wanted_none hg)]
  refine .inr (.inr ⟨f, args, w, hr, Calls.mono hc ?_⟩)
  rintro e w' ⟨x, rfl, hf, hM⟩
  exact ⟨x, rfl, x, rfl, hM, hf, fun _ _ _ _ h => h⟩
end
theorem add_all : ∀ m : Fin 4, ∀ r : Fin 8, r.val < 2 ^ m.val → ∀ y : Bool, wrap64 ((r.val : Int) + wrap64 (b2i y * 2 ^ m.val)) = ((r.val + (if y then 2 ^ m.val else 0) : Nat) : Int) := by decide +kernel
theorem add_step {m r : Nat} {y : Bool} (hm : m < 4) (hr : r < 2 ^ m) : wrap64 ((r : Int) + wrap64 (b2i y * 2 ^ m)) = ((r + (if y then 2 ^ m else 0) : Nat) : Int) := by
  have h8 : r < 8 := by
    have : (2 : Nat) ^ m ≤ 2 ^ 3 := Nat.pow_le_pow_right (by decide) (by omega)
    omega
  exact add_all ⟨m, hm⟩ ⟨r, h8⟩ hr y
theorem rowF_lt (f : Int → Bool) (xs : List Int) : ∀ k, rowF f xs k < 2 ^ k
  | 0 => by simp [rowF]
  | k + 1 => by
    have := rowF_lt f xs k
    rw [rowF, Nat.pow_succ]
    split <;> omega
/-- What the values that are known hold. -/
structure SE (w : World) (g N : Nat) (x : Packed) (ins st : List Bool) (vi vs : Value) (V : World) : Prop where
  below : Below w.heap.size w V
  gi : OI w.heap.size V vi (ins.map b2i)
  gs : OI w.heap.size V vs (st.map b2i)
  ni : vi.ownBlock ≠ some g
  ns : vs.ownBlock ≠ some g
  hg : w.heap.size ≤ g
  mem : ∃ m : List Int, m.length = N ∧ BW V g m ∧ ∀ (s : Nat) y, m[s]? = some y → y = 0 ∨ y = 1 + b2i (valP x.blocks ins st (s : Int))
theorem SE.later {w V V' : World} {g N : Nat} {x : Packed} {ins st : List Bool} {vi vs : Value} (h : SE w g N x ins st vi vs V) (hb : Below V.heap.size V V') : SE w g N x ins st vi vs V' := by
  obtain ⟨m, h1, h2, h3⟩ := h.mem
  exact ⟨btr h.below hb, h.gi.later hb, h.gs.later hb, h.ni, h.ns, h.hg, m, h1, h2.later hb, h3⟩
theorem SE.put {w V : World} {g N s : Nat} {x : Packed} {ins st : List Bool} {vi vs : Value} (h : SE w g N x ins st vi vs V) : SE w g N x ins st vi vs (V.setCell ⟨g, s, none⟩ (.int .i64 (1 + b2i (valP x.blocks ins st (s : Int))))) := by
  obtain ⟨m, h1, h2, h3⟩ := h.mem
  have hf := Fx.set g s V (.int .i64 (1 + b2i (valP x.blocks ins st (s : Int))))
  refine ⟨hf.below h.below h.hg h.below.size, Fx.row h.gi hf h.ni, Fx.row h.gs hf h.ns, h.ni, h.ns, h.hg, m.set s _, by rw [List.length_set]; exact h1, h2.set s _, fun t y hy => ?_⟩
  by_cases e : t = s
  · subst e
    have hlt : t < m.length := by
      have := (List.getElem?_eq_some_iff.1 hy).1
      rwa [List.length_set] at this
    rw [List.getElem?_set_self hlt] at hy
    injection hy with hy
    exact .inr hy.symm
  · rw [List.getElem?_set_ne (fun e2 => e e2.symm)] at hy
    exact h3 t y hy
theorem SE.lt {w V : World} {g N : Nat} {x : Packed} {ins st : List Bool} {vi vs : Value} (h : SE w g N x ins st vi vs V) : g < V.heap.size := by
  obtain ⟨m, h1, h2, h3⟩ := h.mem
  exact h2.lt
def FLk {s0 s1 s2 s3 s4 : Option Addr} {l0 c0 l1 c1 l2 c2 l3 c3 l4 c4 : Nat} (vi vs : Value) (g N bb b' o' k m d : Nat) (a : Option Addr) (r r' y z u : Int) : Nat → Value → Prop
  | 0, v => v = .int .i64 r
  | 1, v => v = .agg #[.slice s0 l0 c0, .slice s1 l1 c1, .slice s2 l2 c2, .slice s3 l3 c3, .slice s4 l4 c4]
  | 2, v => v = .pointer (some ⟨bb, 1, none⟩)
  | 3, v => v = .slice a m d
  | 4, v => v = .int .i64 (k : Int)
  | 5, v => v = .pointer (some ⟨b', o' + k, none⟩)
  | 6, v => v = .int .i64 y
  | 7, v => v = vi
  | 8, v => v = vs
  | 9, v => v = .slice (some ⟨g, 0, none⟩) N N
  | 10, v => v = .int .i64 z
  | 11, v => v = .int .i64 (k : Int)
  | 12, v => v = .int .i64 u
  | 13, v => v = .int .i64 r'
  | 14, v => v = .int .i64 r'
  | _, _ => True
set_option maxHeartbeats 32000000 in
theorem sLook {s0 s1 s2 s3 s4 : Option Addr} {l0 c0 l1 c1 l2 c2 l3 c3 l4 c4 : Nat} {g N m d li ci ls cs : Nat} {a ai az : Option Addr} (x : Packed) (ins st : List Bool) (w : World) (b : Block) (hm : m = b.inp.length) (hr : RS 1 RInt w 0 b.inp (.slice a m d)) (hb4 : b.inp.length ≤ 4) (ht0 : 0 ≤ b.table) (ht1 : b.table < 65536)
    (HV : Hid (∀ y ∈ b.inp, ∀ V, SE w g N x ins st (.slice ai li ci) (.slice az ls cs) V → Calls Tryz.prog 26 #[.agg #[.slice s0 l0 c0, .slice s1 l1 c1, .slice s2 l2 c2, .slice s3 l3 c3, .slice s4 l4 c4], .int .i64 y, .slice ai li ci, .slice az ls cs, .slice (some ⟨g, 0, none⟩) N N] V fun e w' => e = .returned (.int .i64 (b2i (valP x.blocks ins st y))) ∧ SE w g N x ins st (.slice ai li ci) (.slice az ls cs) w' ∧ Fx g V w')) (V : World) (hV : SE w g N x ins st (.slice ai li ci) (.slice az ls cs) V) :
    Calls Tryz.prog 24 #[.agg #[.slice s0 l0 c0, .slice s1 l1 c1, .slice s2 l2 c2, .slice s3 l3 c3, .slice s4 l4 c4], .agg #[.string b.name, .slice a m d, .int .i64 b.table, .bool b.reg, .int .i64 b.init, .int .i64 b.clock], .slice ai li ci, .slice az ls cs, .slice (some ⟨g, 0, none⟩) N N] V fun e w' => e = .returned (.int .i64 (b2i (lookF (valP x.blocks ins st) b))) ∧ SE w g N x ins st (.slice ai li ci) (.slice az ls cs) w' ∧ Fx g V w' := by
  obtain ⟨W2, hW2⟩ : ∃ W, W = (V.alloc (.cells #[.slice s0 l0 c0, .slice s1 l1 c1, .slice s2 l2 c2, .slice s3 l3 c3, .slice s4 l4 c4] 36)).alloc (.cells #[.string b.name, .slice a m d, .int .i64 b.table, .bool b.reg, .int .i64 b.init, .int .i64 b.clock] 66) := ⟨_, rfl⟩
  have hb2 : Below V.heap.size V W2 := by rw [hW2]; exact bal (bal (brf V) _) _
  have HF2 : Hid (Fx g V W2) := hide (Fx.of hb2)
  have HS2 : Hid (SE w g N x ins st (.slice ai li ci) (.slice az ls cs) W2) := hide (hV.later hb2)
  have HPC : Hid (∀ U, Fx g W2 U → U.cell? ⟨V.heap.size, 0, none⟩ = some (.slice s0 l0 c0) ∧ U.cell? ⟨V.heap.size, 1, none⟩ = some (.slice s1 l1 c1) ∧ U.cell? ⟨V.heap.size, 2, none⟩ = some (.slice s2 l2 c2) ∧ U.cell? ⟨V.heap.size, 3, none⟩ = some (.slice s3 l3 c3) ∧ U.cell? ⟨V.heap.size, 4, none⟩ = some (.slice s4 l4 c4) ∧ U.cell? ⟨V.heap.size + 1, 1, none⟩ = some (.slice a m d) ∧ U.cell? ⟨V.heap.size + 1, 2, none⟩ = some (.int .i64 b.table)) := hide (fun U hU => by
    have hlt := hV.lt
    have hc : ∀ i v, (#[.slice s0 l0 c0, .slice s1 l1 c1, .slice s2 l2 c2, .slice s3 l3 c3, .slice s4 l4 c4] : Array Value)[i]? = some v → W2.cell? ⟨V.heap.size, i, none⟩ = some v := fun i v h => by
      rw [hW2]
      refine cell_later (bal (brf (V.alloc _)) _) ?_
      rw [World.cell?_alloc_new]; exact h
    have hd : ∀ i v, (#[.string b.name, .slice a m d, .int .i64 b.table, .bool b.reg, .int .i64 b.init, .int .i64 b.clock] : Array Value)[i]? = some v → W2.cell? ⟨V.heap.size + 1, i, none⟩ = some v := fun i v h => by
      rw [hW2]
      have hs : (V.alloc (.cells #[.slice s0 l0 c0, .slice s1 l1 c1, .slice s2 l2 c2, .slice s3 l3 c3, .slice s4 l4 c4] 36)).heap.size = V.heap.size + 1 := by simp
      rw [← hs, World.cell?_alloc_new]; exact h
    exact ⟨hU.cell (hc 0 _ rfl) (by omega), hU.cell (hc 1 _ rfl) (by omega), hU.cell (hc 2 _ rfl) (by omega), hU.cell (hc 3 _ rfl) (by omega), hU.cell (hc 4 _ rfl) (by omega), hU.cell (hd 1 _ rfl) (by omega), hU.cell (hd 2 _ rfl) (by omega)⟩)
  have HIN : Hid (∀ (k : Nat) y, b.inp[k]? = some y → ∃ b' o', a = some ⟨b', o', none⟩ ∧ m ≤ d ∧ w.cell? ⟨b', o' + k, none⟩ = some (.int .i64 y)) := hide (fun k y hy => by
    rcases hr.open with ⟨e, _⟩ | ⟨b', o', c', hv, hc, _, _, he⟩
    · rw [e] at hy; simp at hy
    · injection hv with e1 e2 e3
      obtain ⟨u, hu, hat, hux⟩ := he k y hy
      unfold RInt at hux
      subst hux
      exact ⟨b', o', e1, by omega, by simpa using hat.get (j := 0) rfl⟩)
  have HM := hide hm
  have HWE := hide hW2
  obtain ⟨t, ht⟩ : ∃ t : Nat, b.table = (t : Int) := ⟨b.table.toNat, by omega⟩
  have HT : Hid (b.table.toNat = t ∧ t < 65536) := hide (by omega)
  have hm4 : m ≤ 4 := by omega
  rw [ht] at HPC HWE ⊢
  clear hr hV hb2 hW2 hm
  go_enter Tryz.func24, Tryz.ntmps24
  go_wp2_with fail
  rw [← unhide HWE]
  go_loopw [11, 12] (fun r i wr => ∃ k : Nat, k ≤ m ∧ i = .int .i64 k ∧ r = .int .i64 ((rowF (valP x.blocks ins st) b.inp k : Nat) : Int) ∧ SE w g N x ins st (.slice ai li ci) (.slice az ls cs) wr ∧ Fx g W2 wr) (fun r i wr => m - (intOf i).toNat)
  case atStart => exact ⟨0, Nat.zero_le _, rfl, rfl, unhide HS2, Fx.refl _ _⟩
  case round =>
    obtain ⟨k, hk, rfl, rfl, hse, hfx⟩ := hrel
    by_cases hlt : k < m
    · have hx : b.inp[k]? = some (b.inp[k]'(by have := unhide HM; omega)) := List.getElem?_eq_getElem _
      have hmem := List.getElem_mem (by have := unhide HM; omega : k < b.inp.length)
      have HSM : Hid (rowF (valP x.blocks ins st) b.inp (k + 1) = rowF (valP x.blocks ins st) b.inp k + (if valP x.blocks ins st (b.inp[k]'(by have := unhide HM; omega)) then 2 ^ k else 0)) := hide (by
        rw [rowF, show b.inp.getD k 0 = b.inp[k]'(by have := unhide HM; omega) by rw [List.getD_eq_getElem?_getD, hx]; rfl])
      generalize b.inp[k]'(by have := unhide HM; omega) = y at hx hmem HSM
      obtain ⟨b', o', rfl, hcap, hcell⟩ := unhide HIN k y hx
      have HVY := hide (unhide HV y hmem)
      have hrl := rowF_lt (valP x.blocks ins st) b.inp k
      have HHC : Hid (∀ U, SE w g N x ins st (.slice ai li ci) (.slice az ls cs) U → U.cell? ⟨b', o' + k, none⟩ = some (.int .i64 y)) := hide (fun U hU => cell_later hU.below hcell)
      obtain ⟨q0, q1, q2, q3, q4, q5, q6⟩ := unhide HPC wr hfx
      generalize valP x.blocks ins st y = z at *
      generalize hrr : rowF (valP x.blocks ins st) b.inp k = r at *
      have HADD : Hid (IntKind.i64.wrap ((r : Int) + IntKind.i64.wrap (b2i z * 2 ^ k)) = ((r + (if z then 2 ^ k else 0) : Nat) : Int)) := hide (by
        have h := add_step (y := z) (by omega : k < 4) hrl
        have e : ∀ v : Int, IntKind.i64.wrap v = wrap64 v := fun v => by first | rfl | (rw [IntKind.wrap_i64]; rfl) | simp [IntKind.wrap_i64, wrap64]
        rw [e, e]; exact h)
      obtain ⟨r', hr'⟩ : ∃ r' : Nat, r' = r + (if z then 2 ^ k else 0) := ⟨_, rfl⟩
      rw [← hr'] at HADD HSM
      have HSE := hide hse
      have HFX := hide hfx
      have i0 : (0 : Int) ≤ (k : Int) := by omega
      have i1 : (k : Int) < (m : Int) := by omega
      clear hx hmem hcell hse hfx hrl hr' hrr HIN HV
      go_wp2_with fail
      clear q0 q1 q2 q3 q4 q5 q6
      refine wp_plan (GF (FLk (s0 := s0) (s1 := s1) (s2 := s2) (s3 := s3) (s4 := s4) (l0 := l0) (l1 := l1) (l2 := l2) (l3 := l3) (l4 := l4) (c0 := c0) (c1 := c1) (c2 := c2) (c3 := c3) (c4 := c4) (.slice ai li ci) (.slice az ls cs) g N (V.heap.size + 1) b' o' k m d (some ⟨b', o', none⟩) r r' y (b2i z) (IntKind.i64.wrap (b2i z * 2 ^ k)))) (JM (fun U => SE w g N x ins st (.slice ai li ci) (.slice az ls cs) U ∧ Fx g W2 U)) (by kernel_rfl) 39 (by kernel_rfl) (by kernel_rfl) ?hj ?hs ?hf
      case hj => exact ⟨(unhide HSE).later (bdr (brf wr)), (unhide HFX).trans (Fx.of (bdr (brf wr)))⟩
      case hs =>
        refine ⟨?_, ?_, ?_, ?_, ?_, ?_, ?_, ?_, ?_, ?_, ?_, ?_, ?_, ?_, ?_, trivial⟩
        · exact sm_valu rfl (fun l a U hp hu hU ha => ⟨.int .i64 (r : Int), by
            have x11 := (ev_form a 11).trans (old2 hp hu 11 14 (v := .int .i64 (r : Int)) (by kernel_rfl) (by kernel_rfl) (by kernel_rfl))
            go_simp, rfl⟩)
        · exact sm_val rfl (fun l a U hp hU ha => ⟨.agg #[.slice s0 l0 c0, .slice s1 l1 c1, .slice s2 l2 c2, .slice s3 l3 c3, .slice s4 l4 c4], by
            have x5 := (ev_form a 5).trans (old hp 5 (v := .pointer (some ⟨V.heap.size, 0, none⟩)) (by kernel_rfl) (by kernel_rfl))
            obtain ⟨q0, q1, q2, q3, q4, q5, q6⟩ := unhide HPC U hU.2
            go_simp, rfl⟩)
        · exact sm_val rfl (fun l a U hp hU ha => ⟨.pointer (some ⟨V.heap.size + 1, 1, none⟩), by
            have x6 := (ev_form a 6).trans (old hp 6 (v := .pointer (some ⟨V.heap.size + 1, 0, none⟩)) (by kernel_rfl) (by kernel_rfl))
            go_simp, rfl⟩)
        · exact sm_val rfl (fun l a U hp hU ha => ⟨.slice (some ⟨b', o', none⟩) m d, by
            have x22 := (ev_form a 22).trans (show a.eval (.tmp 22) = .pointer (some ⟨V.heap.size + 1, 1, none⟩) from kn hp ha 22 2 (by kernel_rfl) (by kernel_rfl))
            obtain ⟨q0, q1, q2, q3, q4, q5, q6⟩ := unhide HPC U hU.2
            go_simp, rfl⟩)
        · exact sm_val rfl (fun l a U hp hU ha => ⟨.int .i64 (k : Int), by
            have x12 := (ev_form a 12).trans (old hp 12 (v := .int .i64 (k : Int)) (by kernel_rfl) (by kernel_rfl))
            go_simp, rfl⟩)
        · exact sm_val rfl (fun l a U hp hU ha => ⟨.pointer (some ⟨b', o' + k, none⟩), by
            have x23 := (ev_form a 23).trans (show a.eval (.tmp 23) = .slice (some ⟨b', o', none⟩) m d from kn hp ha 23 3 (by kernel_rfl) (by kernel_rfl))
            have x24 := (ev_form a 24).trans (show a.eval (.tmp 24) = .int .i64 (k : Int) from kn hp ha 24 4 (by kernel_rfl) (by kernel_rfl))
            go_simp, rfl⟩)
        · exact sm_val rfl (fun l a U hp hU ha => ⟨.int .i64 y, by
            have x25 := (ev_form a 25).trans (show a.eval (.tmp 25) = .pointer (some ⟨b', o' + k, none⟩) from kn hp ha 25 5 (by kernel_rfl) (by kernel_rfl))
            have hh := unhide HHC U hU.1
            go_simp, rfl⟩)
        · exact sm_val rfl (fun l a U hp hU ha => ⟨.slice ai li ci, by
            have x2 := (ev_form a 2).trans (old hp 2 (v := .slice ai li ci) (by kernel_rfl) (by kernel_rfl))
            go_simp, rfl⟩)
        · exact sm_val rfl (fun l a U hp hU ha => ⟨.slice az ls cs, by
            have x3 := (ev_form a 3).trans (old hp 3 (v := .slice az ls cs) (by kernel_rfl) (by kernel_rfl))
            go_simp, rfl⟩)
        · exact sm_val rfl (fun l a U hp hU ha => ⟨.slice (some ⟨g, 0, none⟩) N N, by
            have x4 := (ev_form a 4).trans (old hp 4 (v := .slice (some ⟨g, 0, none⟩) N N) (by kernel_rfl) (by kernel_rfl))
            go_simp, rfl⟩)
        · exact sm_call (f := 26) rfl (fun l a U hp hU ha => ⟨#[.agg #[.slice s0 l0 c0, .slice s1 l1 c1, .slice s2 l2 c2, .slice s3 l3 c3, .slice s4 l4 c4], .int .i64 y, .slice ai li ci, .slice az ls cs, .slice (some ⟨g, 0, none⟩) N N], by
            have x21 := (ev_form a 21).trans (show a.eval (.tmp 21) = .agg #[.slice s0 l0 c0, .slice s1 l1 c1, .slice s2 l2 c2, .slice s3 l3 c3, .slice s4 l4 c4] from kn hp ha 21 1 (by kernel_rfl) (by kernel_rfl))
            have x26 := (ev_form a 26).trans (show a.eval (.tmp 26) = .int .i64 y from kn hp ha 26 6 (by kernel_rfl) (by kernel_rfl))
            have x27 := (ev_form a 27).trans (show a.eval (.tmp 27) = .slice ai li ci from kn hp ha 27 7 (by kernel_rfl) (by kernel_rfl))
            have x28 := (ev_form a 28).trans (show a.eval (.tmp 28) = .slice az ls cs from kn hp ha 28 8 (by kernel_rfl) (by kernel_rfl))
            have x29 := (ev_form a 29).trans (show a.eval (.tmp 29) = .slice (some ⟨g, 0, none⟩) N N from kn hp ha 29 9 (by kernel_rfl) (by kernel_rfl))
            go_simp, (unhide HVY U hU.1).mono (by rintro e V1 ⟨rfl, h1, h2⟩; exact ⟨_, rfl, rfl, h1, hU.2.trans h2⟩)⟩)
        · exact sm_val rfl (fun l a U hp hU ha => ⟨.int .i64 (k : Int), by
            have x12 := (ev_form a 12).trans (old hp 12 (v := .int .i64 (k : Int)) (by kernel_rfl) (by kernel_rfl))
            go_simp, rfl⟩)
        · exact sm_val rfl (fun l a U hp hU ha => ⟨.int .i64 (IntKind.i64.wrap (b2i z * 2 ^ k)), by
            have x30 := (ev_form a 30).trans (show a.eval (.tmp 30) = .int .i64 (b2i z) from kn hp ha 30 10 (by kernel_rfl) (by kernel_rfl))
            have x31 := (ev_form a 31).trans (show a.eval (.tmp 31) = .int .i64 (k : Int) from kn hp ha 31 11 (by kernel_rfl) (by kernel_rfl))
            go_simp, rfl⟩)
        · exact sm_val rfl (fun l a U hp hU ha => ⟨.int .i64 (r' : Int), by
            have x20 := (ev_form a 20).trans (show a.eval (.tmp 20) = .int .i64 (r : Int) from kn hp ha 20 0 (by kernel_rfl) (by kernel_rfl))
            have x32 := (ev_form a 32).trans (show a.eval (.tmp 32) = .int .i64 (IntKind.i64.wrap (b2i z * 2 ^ k)) from kn hp ha 32 12 (by kernel_rfl) (by kernel_rfl))
            have hw := unhide HADD
            go_simp, rfl⟩)
        · exact sm_val rfl (fun l a U hp hU ha => ⟨.int .i64 (r' : Int), by
            have x33 := (ev_form a 33).trans (show a.eval (.tmp 33) = .int .i64 (r' : Int) from kn hp ha 33 13 (by kernel_rfl) (by kernel_rfl))
            go_simp, rfl⟩)
      case hf =>
        intro l a V3 hp hall
        have hv := hp.good 14 _ 11 rfl rfl (hall 14 (by decide))
        obtain ⟨hse, hfx⟩ := hp.j
        have HSE2 := hide hse
        have HFX2 := hide hfx
        obtain ⟨us, rfl, hus⟩ := putAll_of [20, 21, 22, 23, 24, 25, 26, 27, 28, 29, 30, 31, 32, 33, 11] hp.nt hp.df (fun t ht => hp.keep t (dstIn (by kernel_rfl) ht))
        have hv2 : us 11 = .int .i64 (r' : Int) := by rw [hus 11]; exact hv
        clear hp hall hv hus hse hfx
        simp only [putAll, List.foldl, Act.put, List.setIfInBounds_toArray, List.set_cons_zero, List.set_cons_succ, hv2]
        clear hv2
        go_wp2_with fail
        go_roundw
        case rel => exact ⟨k + 1, by omega, by go_num, by rw [unhide HSM], unhide HSE2, unhide HFX2⟩
        case measure => simp [intOf]; omega
    · obtain rfl : k = m := by omega
      obtain ⟨q0, q1, q2, q3, q4, q5, q6⟩ := unhide HPC wr hfx
      have HSE := hide hse
      have HFX := hide hfx
      have HL : Hid (lookF (valP x.blocks ins st) b = t.testBit (rowF (valP x.blocks ins st) b.inp k)) := hide (by
        unfold lookF
        rw [(unhide HT).1, ← unhide HM])
      have ht2 := (unhide HT).2
      have hrl := rowF_lt (valP x.blocks ins st) b.inp k
      have hpw : (2 : Nat) ^ k ≤ 2 ^ 4 := Nat.pow_le_pow_right (by decide) hm4
      generalize rowF (valP x.blocks ins st) b.inp k = r at *
      have HAN : Hid (bits BinOp.and IntKind.i64 ((t : Int) / 2 ^ r) 1 = b2i (t.testBit r)) := hide (and_one ht2 r)
      have han := unhide HAN
      have hmin : min r 64 = r := by omega
      clear hse hfx HIN HV hrl hpw ht2
      go_wp2_with fail
      exact bodyPost_ret (v := .int .i64 (b2i (t.testBit r))) (by simp [results, Tryz.results24, go_sem]) rfl ⟨by rw [unhide HL], unhide HSE, (unhide HF2).trans (unhide HFX)⟩
end Go.Proofs.YtdmmbhemmbgcpabGreat
