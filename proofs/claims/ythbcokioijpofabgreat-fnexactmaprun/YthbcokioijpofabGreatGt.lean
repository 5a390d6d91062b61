/- The specification's MapRun: the loop of the next states. -/
import Derived.Test.YthbcokioijpofabGreatGq
import Derived.Test.YthbcokioijpofabGreatAE
import Derived.Test.YthbcokioijpofabGreatQ10
import Derived.BigQuiet
namespace Go.Proofs.YthbcokioijpofabGreat
open Go Go.RowKit Gs
set_option linter.unusedVariables false
set_option linter.unusedSimpArgs false
set_option maxRecDepth 100000
theorem heap_setI {w : World} {b i : Nat} {cur : Array Value} {v : Value} {t : TypeId} {f : Nat × Nat} (h : w.heap[b]? = some (.cells cur t f)) : (w.setCell ⟨b, i, none⟩ v).heap[b]? = some (.cells (cur.setIfInBounds i v) t f) := by
  simp [World.setCell, Array.getElem?_modify, h]
theorem OI.set {B : Nat} {W : World} {g l c : Nat} {xs : List Int} (h : OI B W (.slice (some ⟨g, 0, none⟩) l c) xs) (j : Nat) (y : Int) : OI B (W.setCell ⟨g, j, none⟩ (.int .i64 y)) (.slice (some ⟨g, 0, none⟩) l c) (xs.set j y) := by
  obtain ⟨h1, h2⟩ := h
  refine ⟨by simp, ?_⟩
  rcases h2 with ⟨e, hn⟩ | ⟨g', cap, cur, e, hb, hg, hlc, hm, hcs, ht⟩
  · cases e
  · injection e with e1 e2 e3
    injection e1 with e1
    injection e1 with e1
    subst e1 e2 e3
    refine .inr ⟨g, _, _, by rw [List.length_set], hb, heap_setI hg, by rw [List.length_set]; exact hlc, hm, by simpa using hcs, ?_⟩
    rw [Array.toList_setIfInBounds, List.length_set, List.take_set, ht, List.map_set]
theorem OI.atS {B : Nat} {v : Value} {xs : List Int} {W : World} (h : OI B W v xs) (hne : 0 < xs.length) : ∃ g c, v = .slice (some ⟨g, 0, none⟩) xs.length c ∧ B ≤ g ∧ ∀ (i : Nat) y, xs[i]? = some y → W.cell? ⟨g, i, none⟩ = some (.int .i64 y) ∧ W.frozen? ⟨g, i, none⟩ = false := by
  have hc := fun g hg => World.ownsRow.cells h (g := g) hg
  rcases h.2 with ⟨rfl, hn⟩ | ⟨g, cap, cur, rfl, hb, hg, hlc, hm, _⟩
  · omega
  · refine ⟨g, cap, rfl, hb, fun i y hy => ⟨?_, by simp [World.frozen?, hg]⟩⟩
    have := hc g rfl i (.int .i64 y) (by rw [List.getElem?_map, hy]; rfl)
    rw [Addr.add_lit] at this
    simpa using this
theorem set_at {α : Type} (ms xs : List α) (y : α) {j : Nat} (ha : ms.length = j) (hj : j < xs.length) : (ms ++ xs.drop j).set j y = (ms ++ [y]) ++ xs.drop (j + 1) := by
  subst ha
  rw [List.set_append_right _ _ (Nat.le_refl _), Nat.sub_self, List.drop_eq_getElem_cons hj, List.set_cons_zero, List.append_assoc, List.singleton_append]
theorem OI.drewN {B n : Nat} {v : Value} {xs : List Int} {W : World} (h : OI B W v xs) : OI B (W.drewN n) v xs := h
/-- The states while the latches take what they are to be. -/
def midV (ticks vs : List Bool) (ls : List MapReg) (st : List Bool) (k : Nat) : List Bool := nextV ticks vs (ls.take k) (st.take k) ++ st.drop k
set_option maxHeartbeats 16000000 in
theorem sL5 {u0 u3 u4 u5 u6 u7 u8 u9 u10 u12 u13 u17 u18 u19 u20 u21 u22 u23 u24 u25 u26 u27 u28 u29 u30 u31 u32 u33 u34 u35 u36 u37 u38 u39 u40 u41 u42 u43 u44 u45 u46 u47 u48 u49 u50 u51 u52 u53 u54 u55 u56 u57 u58 u59 u60 u61 u62 u63 u64 u65 u66 u67 u68 u69 u70 u71 u72 u73 u74 u75 u76 u77 u78 u79 u80 u81 u82 u83 u84 u85 u86 u87 u88 u89 u90 u91 u92 u93 u94 u95 u96 u97 u98 u99 u100 u101 u102 u103 u104 u105 u106 u107 u108 u109 u110 u111 u112 u113 u114 u115 u116 u117 u118 u119 u120 u121 u122 u123 u124 u125 u126 u127 u128 u129 u130 u131 u132 u133 u134 u135 u136 u137 u138 u139 u140 u141 u142 u143 u144 u145 u146 u147 u148 u149 u150 u151 u152 u153 u154 u155 u156 u157 u158 u159 u160 u161 u162 u163 u164 u165 u166 u167 u168 u169 u170 u171 u172 u173 u174 u175 u176 u177 u178 u179 u180 u181 u182 u183 u184 u185 u186 u187 u188 u189 u190 u191 u192 u193 u194 u195 u196 u197 u198 u199 u200 u201 u202 u203 : Value} {pb sb so sl sc K l2 c2 lt ct n8 c8 BB : Nat} {s2 stk sa : Option Addr} {iv : Value} {vs ticks st : List Bool} {ls : List MapReg} {W0 W : World} {Q : Exit → Act → World → Prop} (hK : K < sl) (hsl : sl ≤ 4096) (hl2 : l2 = ls.length) (hlt' : lt = ticks.length) (hnb : ls.length ≤ 1048576) (hsl2 : st.length = ls.length) (hvl : vs.length ≤ 1048576 * 8) (htb : ticks.length ≤ 1048576)
    (HBX : Hid (∀ V, Below W0.heap.size W0 V → V.cell? ⟨pb, 2, none⟩ = some (.slice s2 l2 c2))) (HSC : Hid (W0.cell? ⟨sb, so + K * 2 + 1, none⟩ = some (.slice stk lt ct))) (HTK : Hid (∀ (i : Nat) x, ticks[i]? = some x → ∃ b o, stk = some ⟨b, o, none⟩ ∧ W0.cell? ⟨b, o + i, none⟩ = some (.bool x)))
    (HLS : Hid (∀ (i : Nat) x, ls[i]? = some x → ∃ b o, s2 = some ⟨b, o, none⟩ ∧ W0.cell? ⟨b, o + i * 4 + 1, none⟩ = some (.int .i64 x.src) ∧ W0.cell? ⟨b, o + i * 4 + 3, none⟩ = some (.int .i64 x.clock)))
    (HNX : Hid (∀ l ∈ ls, 0 ≤ l.src ∧ l.src < (vs.length : Int))) (HCK : Hid (∀ l ∈ ls, 0 ≤ l.clock ∧ l.clock < (ticks.length : Int))) (HIV : Hid (OI BB W0 iv (vs.map b2i)))
    (HO : Hid (OI W0.heap.size W (.slice sa n8 c8) (st.map b2i))) (HB0 : Hid (Below W0.heap.size W0 W))
    (hQ : ∀ (z16 z101 z102 z103 z104 z105 z106 z107 z108 z109 z110 z111 z112 z113 z114 z115 z116 z117 z118 z119 z120 z121 z122 z123 z124 z125 z126 z127 z128 z129 z130 z131 z132 : Value) V, OI W0.heap.size V (.slice sa n8 c8) ((nextV ticks vs ls st).map b2i) → Below W0.heap.size W0 V → Q (.exit 8) { tmps := (u0 :: .slice (some ⟨sb, so, none⟩) sl sc :: .pointer (some ⟨pb, 0, none⟩) :: u3 :: u4 :: u5 :: u6 :: u7 :: u8 :: u9 :: u10 :: .int .i64 (K : Int) :: u12 :: u13 :: iv :: .slice sa n8 c8 :: z16 :: u17 :: u18 :: u19 :: u20 :: u21 :: u22 :: u23 :: u24 :: u25 :: u26 :: u27 :: u28 :: u29 :: u30 :: u31 :: u32 :: u33 :: u34 :: u35 :: u36 :: u37 :: u38 :: u39 :: u40 :: u41 :: u42 :: u43 :: u44 :: u45 :: u46 :: u47 :: u48 :: u49 :: u50 :: u51 :: u52 :: u53 :: u54 :: u55 :: u56 :: u57 :: u58 :: u59 :: u60 :: u61 :: u62 :: u63 :: u64 :: u65 :: u66 :: u67 :: u68 :: u69 :: u70 :: u71 :: u72 :: u73 :: u74 :: u75 :: u76 :: u77 :: u78 :: u79 :: u80 :: u81 :: u82 :: u83 :: u84 :: u85 :: u86 :: u87 :: u88 :: u89 :: u90 :: u91 :: u92 :: u93 :: u94 :: u95 :: u96 :: u97 :: u98 :: u99 :: u100 :: z101 :: z102 :: z103 :: z104 :: z105 :: z106 :: z107 :: z108 :: z109 :: z110 :: z111 :: z112 :: z113 :: z114 :: z115 :: z116 :: z117 :: z118 :: z119 :: z120 :: z121 :: z122 :: z123 :: z124 :: z125 :: z126 :: z127 :: z128 :: z129 :: z130 :: z131 :: z132 :: u133 :: u134 :: u135 :: u136 :: u137 :: u138 :: u139 :: u140 :: u141 :: u142 :: u143 :: u144 :: u145 :: u146 :: u147 :: u148 :: u149 :: u150 :: u151 :: u152 :: u153 :: u154 :: u155 :: u156 :: u157 :: u158 :: u159 :: u160 :: u161 :: u162 :: u163 :: u164 :: u165 :: u166 :: u167 :: u168 :: u169 :: u170 :: u171 :: u172 :: u173 :: u174 :: u175 :: u176 :: u177 :: u178 :: u179 :: u180 :: u181 :: u182 :: u183 :: u184 :: u185 :: u186 :: u187 :: u188 :: u189 :: u190 :: u191 :: u192 :: u193 :: u194 :: u195 :: u196 :: u197 :: u198 :: u199 :: u200 :: u201 :: u202 :: u203 :: []).toArray, defers := [] } V) :
    Code.wp Tryz.prog (atB 8 (bodyOf Tryz.f6)) Q { tmps := (u0 :: .slice (some ⟨sb, so, none⟩) sl sc :: .pointer (some ⟨pb, 0, none⟩) :: u3 :: u4 :: u5 :: u6 :: u7 :: u8 :: u9 :: u10 :: .int .i64 (K : Int) :: u12 :: u13 :: iv :: .slice sa n8 c8 :: .int .i64 0 :: u17 :: u18 :: u19 :: u20 :: u21 :: u22 :: u23 :: u24 :: u25 :: u26 :: u27 :: u28 :: u29 :: u30 :: u31 :: u32 :: u33 :: u34 :: u35 :: u36 :: u37 :: u38 :: u39 :: u40 :: u41 :: u42 :: u43 :: u44 :: u45 :: u46 :: u47 :: u48 :: u49 :: u50 :: u51 :: u52 :: u53 :: u54 :: u55 :: u56 :: u57 :: u58 :: u59 :: u60 :: u61 :: u62 :: u63 :: u64 :: u65 :: u66 :: u67 :: u68 :: u69 :: u70 :: u71 :: u72 :: u73 :: u74 :: u75 :: u76 :: u77 :: u78 :: u79 :: u80 :: u81 :: u82 :: u83 :: u84 :: u85 :: u86 :: u87 :: u88 :: u89 :: u90 :: u91 :: u92 :: u93 :: u94 :: u95 :: u96 :: u97 :: u98 :: u99 :: u100 :: u101 :: u102 :: u103 :: u104 :: u105 :: u106 :: u107 :: u108 :: u109 :: u110 :: u111 :: u112 :: u113 :: u114 :: u115 :: u116 :: u117 :: u118 :: u119 :: u120 :: u121 :: u122 :: u123 :: u124 :: u125 :: u126 :: u127 :: u128 :: u129 :: u130 :: u131 :: u132 :: u133 :: u134 :: u135 :: u136 :: u137 :: u138 :: u139 :: u140 :: u141 :: u142 :: u143 :: u144 :: u145 :: u146 :: u147 :: u148 :: u149 :: u150 :: u151 :: u152 :: u153 :: u154 :: u155 :: u156 :: u157 :: u158 :: u159 :: u160 :: u161 :: u162 :: u163 :: u164 :: u165 :: u166 :: u167 :: u168 :: u169 :: u170 :: u171 :: u172 :: u173 :: u174 :: u175 :: u176 :: u177 :: u178 :: u179 :: u180 :: u181 :: u182 :: u183 :: u184 :: u185 :: u186 :: u187 :: u188 :: u189 :: u190 :: u191 :: u192 :: u193 :: u194 :: u195 :: u196 :: u197 :: u198 :: u199 :: u200 :: u201 :: u202 :: u203 :: []).toArray, defers := [] } W := by
  subst hl2 hlt'
  have HQ := hide hQ
  clear hQ
  conv => arg 2; whnf
  go_loopw [16] (fun i wr => ∃ (k : Nat), k ≤ ls.length ∧ i = .int .i64 k ∧ OI W0.heap.size wr (.slice sa n8 c8) ((midV ticks vs ls st k).map b2i) ∧ Below W0.heap.size W0 wr) (fun i wr => ls.length - (intOf i).toNat)
  case atStart => exact ⟨0, Nat.zero_le _, rfl, by unfold midV nextV; simpa using unhide HO, unhide HB0⟩
  case round =>
    obtain ⟨k, hk, rfl, hot, hb⟩ := hrel
    have q2 := unhide HBX wr hb
    by_cases hlt : k < ls.length
    · have hx : ls[k]? = some ls[k] := List.getElem?_eq_getElem hlt
      have hmem : ls[k] ∈ ls := List.getElem_mem hlt
      generalize ls[k] = x at hx hmem
      have hks : k < st.length := by omega
      have hxs : st[k]? = some st[k] := List.getElem?_eq_getElem hks
      generalize st[k] = sk at hxs
      obtain ⟨b, o, rfl, hc1, hc3⟩ := unhide HLS k x hx
      obtain ⟨n1, n2⟩ := unhide HNX x hmem
      obtain ⟨t1, t2⟩ := unhide HCK x hmem
      obtain ⟨ck, hck⟩ : ∃ ck : Nat, x.clock = ck := ⟨x.clock.toNat, by omega⟩
      have hckl : ck < ticks.length := by omega
      have htx : ticks[ck]? = some ticks[ck] := List.getElem?_eq_getElem hckl
      have htd : ticks.getD x.clock.toNat false = ticks[ck] := by rw [hck, Int.toNat_natCast, List.getD_eq_getElem?_getD, htx]; rfl
      generalize ticks[ck] = tk at htx htd
      obtain ⟨tb, to, rfl, hct⟩ := unhide HTK ck tk htx
      have k0 := cell_later hb (unhide HSC)
      have k1 := cell_later hb hc1
      have k3 := cell_later hb hc3
      have kt := cell_later hb hct
      rw [hck] at k3
      have hml : (nextV ticks vs (ls.take k) (st.take k)).length = k := by unfold nextV; rw [List.length_zipWith, List.length_take, List.length_take]; omega
      have hmid : (midV ticks vs ls st k).length = st.length := by unfold midV; rw [List.length_append, hml, List.length_drop]; omega
      have hstep : midV ticks vs ls st (k + 1) = nextV ticks vs (ls.take k) (st.take k) ++ [if tk then srcV vs x.src else sk] ++ st.drop (k + 1) := by
        unfold midV
        rw [nextV_step ticks vs hx hxs, htd]
      have HB := hide hb
      have HOT := hide hot
      have i1 : (K : Int) < (sl : Int) := by omega
      have i2 : (k : Int) < (ls.length : Int) := by omega
      have i3 : (0 : Int) ≤ (ck : Int) := by omega
      have i4 : (ck : Int) < (ticks.length : Int) := by omega
      cases tk
      · have HR1 : Hid (OI W0.heap.size wr (.slice sa n8 c8) ((midV ticks vs ls st (k + 1)).map b2i)) := hide (by
          rw [hstep, if_neg (by decide)]
          have e : nextV ticks vs (ls.take k) (st.take k) ++ [sk] ++ st.drop (k + 1) = midV ticks vs ls st k := by
            unfold midV
            obtain ⟨_, e2⟩ := List.getElem?_eq_some_iff.1 hxs
            rw [List.drop_eq_getElem_cons hks, e2]; simp
          rw [e]; exact hot)
        clear hot hb hc1 hc3 hct hx hmem hxs htx htd hml hmid hstep n1 n2 t1 t2 hck HOT
        go_wp2_with fail
        go_quiet (fail)
        go_wp2_with fail
        go_roundw
        case rel => exact ⟨k + 1, by omega, by go_num, OI.drewN (unhide HR1), bdq (unhide HB)⟩
        case measure => simp [intOf]; omega
      · obtain ⟨g, c9, hv, hg, hcl⟩ := hot.atS (by rw [List.length_map, hmid]; omega)
        injection hv with hv1 hv2 hv3
        subst hv1 hv3
        have hn8 : n8 = ls.length := by rw [hv2, List.length_map, hmid]; omega
        subst hn8
        obtain ⟨hcc, hcf⟩ := hcl k (b2i ((midV ticks vs ls st k)[k]'(by omega))) (by rw [List.getElem?_map, List.getElem?_eq_getElem (by omega)]; rfl)
        generalize b2i ((midV ticks vs ls st k)[k]'(by omega)) = oldv at hcc
        obtain ⟨pn, hpn⟩ : ∃ pn : Nat, x.src = (pn : Int) := ⟨x.src.toNat, by omega⟩
        obtain ⟨gb, gc, rfl, hgl⟩ := (unhide HIV).atC (by rw [List.length_map]; omega)
        have kv := cell_later hb (hgl pn (b2i (srcV vs x.src)) (by rw [hpn, List.getElem?_map, srcV_at (by omega)]; rfl))
        have p1 : (pn : Int) < ((vs.map b2i).length : Int) := by rw [List.length_map]; omega
        have p2 : (0 : Int) ≤ (pn : Int) := by omega
        rw [hpn] at k1
        have HST : Hid (∀ V : World, OI W0.heap.size V (.slice (some ⟨g, 0, none⟩) ls.length c8) ((midV ticks vs ls st k).map b2i) → OI W0.heap.size (V.setCell ⟨g, k, none⟩ (.int .i64 (b2i (srcV vs x.src)))) (.slice (some ⟨g, 0, none⟩) ls.length c8) ((midV ticks vs ls st (k + 1)).map b2i)) := hide (fun V hV => by
          have := hV.set k (b2i (srcV vs x.src))
          rw [← List.map_set] at this
          have e : (midV ticks vs ls st k).set k (srcV vs x.src) = midV ticks vs ls st (k + 1) := by
            rw [hstep, if_pos rfl]
            unfold midV
            rw [set_at _ _ _ hml hks]
          rw [e] at this; exact this)
        have HG := hide hg
        clear hot hb hc1 hc3 hct hx hmem hxs htx htd hml hmid hstep n1 n2 t1 t2 hck hcl hv2 hgl hpn
        generalize (vs.map b2i).length = vn at *
        generalize srcV vs x.src = A at *
        generalize x.src = z at *
        generalize midV ticks vs ls st k = mid at *
        go_wp2_with fail
        go_quiet (fail)
        go_wp2_with fail
        go_roundw
        case rel => exact ⟨k + 1, by omega, by go_num, unhide HST _ (OI.drewN (unhide HOT)), (bdq (unhide HB)).setCell (unhide HG) _⟩
        case measure => simp [intOf]; omega
    · obtain rfl : k = ls.length := by omega
      have e : midV ticks vs ls st ls.length = nextV ticks vs ls st := by
        unfold midV
        rw [List.take_of_length_le (Nat.le_refl _), List.take_of_length_le (by omega), List.drop_of_length_le (by omega), List.append_nil]
      rw [e] at hot
      have HOT := hide hot
      have HB := hide hb
      clear hot hb
      go_wp2_with fail
      exact unhide HQ _ _ _ _ _ _ _ _ _ _ _ _ _ _ _ _ _ _ _ _ _ _ _ _ _ _ _ _ _ _ _ _ _ wr (unhide HOT) (unhide HB)
end Go.Proofs.YthbcokioijpofabGreat
namespace Go.Proofs.YthbcokioijpofabGreat
open Go Go.RowKit Gs
set_option linter.unusedVariables false
set_option linter.unusedSimpArgs false
set_option maxRecDepth 100000
theorem Ob.below {B b g Bq : Nat} {W W' : World} {u : List Value} {vs : List Bool} (h : Ob B W b g u vs) (hb : Below Bq W W') (h1 : b < Bq) (h2 : g < Bq) : Ob B W' b g u vs :=
  ⟨h.hb, h.hg, h.ne, Nat.lt_of_lt_of_le h.lt hb.size, fun j y hj => (hb.cell (p := ⟨b, 0 + j, none⟩) h1).trans (h.at_ j y hj), fun i x hx => ⟨(hb.cell (p := ⟨g, i, none⟩) h2).trans (h.vals i x hx).1, (hb.frozen (p := ⟨g, i, none⟩) h2).trans (h.vals i x hx).2⟩⟩
theorem Fx.grow {g : Nat} {W V V' : World} (h : Fx g W V) (hb : Below W.heap.size V V') : Fx g W V' :=
  ⟨hb.os.trans h.os, hb.tape.trans h.tape, hb.output.trans h.output, Nat.le_trans h.size hb.size, fun i hi hne => (hb.block i hi).trans (h.block i hi hne)⟩
theorem oneR (a b c : Option Addr) (l1 l2 l3 c1 c2 c3 : Nat) : ∀ u ∈ [Value.slice a l1 c1, .slice b l2 c2, .slice c l3 c3], u.oneCell' = true := by
  intro u hu; simp at hu; rcases hu with rfl | rfl | rfl <;> rfl
/-- What MapOK tells of a design. -/
structure MapFit (x : Mapped) : Prop where
  n0 : x.ins.length ≤ 2048
  n2 : x.regs.length ≤ 2048
  n3 : x.luts.length ≤ 1048576
  n4 : x.outs.length ≤ 1048576
  n5 : x.checks.length ≤ 1048576
  next : ∀ l ∈ x.regs, 0 ≤ l.src ∧ l.src < ((x.ins.length + x.regs.length + x.luts.length : Nat) : Int)
  init : ∀ l ∈ x.regs, l.init = 0 ∨ l.init = 1
  clock : ∀ l ∈ x.regs, 0 ≤ l.clock ∧ l.clock < (x.clocks.length : Int)
  luts : LO4 (x.ins.length + x.regs.length) x.luts
  outs : ∀ p ∈ x.outs, 0 ≤ p.src ∧ p.src < ((x.ins.length + x.regs.length + x.luts.length : Nat) : Int)
  checks : ∀ p ∈ x.checks, 0 ≤ p.src ∧ p.src < ((x.ins.length + x.regs.length + x.luts.length : Nat) : Int)
def StepFit (x : Mapped) (s : Step) : Prop := s.ins.length = x.ins.length ∧ s.ticks.length = x.clocks.length ∧ ∀ y ∈ s.ins, y = txt1 (bit1 y)
theorem regs_eq (pre st an : List Bool) (n : Nat) (hp : pre.length = n) : (List.range st.length).map (fun i => txt1 ((pre ++ (st ++ an)).getD (n + i) false)) = st.map txt1 := by
  apply List.ext_getElem?
  intro i
  by_cases hi : i < st.length
  · rw [List.getElem?_map, List.getElem?_map, List.getElem?_range hi, List.getElem?_eq_getElem hi]
    simp only [Option.map_some, List.getD_eq_getElem?_getD]
    rw [List.getElem?_append_right (by omega), hp, show n + i - n = i by omega, List.getElem?_append_left hi, List.getElem?_eq_getElem hi]
    rfl
  · rw [List.getElem?_eq_none (by simp; omega), List.getElem?_eq_none (by simp; omega)]
/-- One step: what the four functions make of the values, and the row. -/
theorem step_row (x : Mapped) (st : List Bool) (s : Step) (hst : st.length = x.regs.length) (hs : s.ins.length = x.ins.length) :
    (⟨x.outs.map (fun p => txt1 (srcV (lutsV (baseV (s.ins.map bit1) (stepV x st s)) x.luts) p.src)), x.checks.map (fun p => txt1 (srcV (lutsV (baseV (s.ins.map bit1) (stepV x st s)) x.luts) p.src)), (List.range x.regs.length).map (fun i => txt1 ((lutsV (baseV (s.ins.map bit1) (stepV x st s)) x.luts).getD (x.ins.length + i) false))⟩ : Row) = rowV x (lutsV (baseV (s.ins.map bit1) (stepV x st s)) x.luts) (stepV x st s) := by
  have hl := stepV_len x st s hst
  obtain ⟨r, hr⟩ := lutsV_pre x.luts (baseV (s.ins.map bit1) (stepV x st s))
  have := regs_eq (s.ins.map bit1) (stepV x st s) r (x.ins.length) (by simp [hs])
  unfold rowV
  rw [hl] at this
  have e : lutsV (baseV (s.ins.map bit1) (stepV x st s)) x.luts = s.ins.map bit1 ++ (stepV x st s ++ r) := by rw [hr]; unfold baseV; simp
  rw [e, this]
set_option maxHeartbeats 16000000 in
theorem iRunSteps {b g c0 c1 c2 c3 c4 c5 : Nat} {s0 s1 s2 s3 s4 s5 : Option Addr} {W0 W : World} (x : Mapped) (hx : MapFit x) (hr : RMapped W0 0 x [.slice s0 x.ins.length c0, .slice s1 x.clocks.length c1, .slice s2 x.regs.length c2, .slice s3 x.luts.length c3, .slice s4 x.outs.length c4, .slice s5 x.checks.length c5])
    (steps : List Step) (sv : Value) (hs : RS 2 RStep W0 0 steps sv) (hsl : steps.length ≤ 4096) (hfit : ∀ s ∈ steps, StepFit x s) (hB : Below W0.heap.size W0 W) (ins0 st0 an0 : List Bool) (hi0 : ins0.length = x.ins.length) (hst0 : st0.length = x.regs.length) (ha0 : an0.length = x.luts.length)
    (h : Ob W0.heap.size W b g [.slice s0 x.ins.length c0, .slice s1 x.clocks.length c1, .slice s2 x.regs.length c2, .slice s3 x.luts.length c3, .slice s4 x.outs.length c4, .slice s5 x.checks.length c5] (ins0 ++ (st0 ++ an0))) :
    Calls Tryz.prog 35 #[.iface 86 (.pointer (some ⟨b, 0, none⟩)), sv] W fun e w' => (∃ v us E, e = .returned v ∧ w'.ownsRow W.heap.size 74 3 v steps.length (rcs us) ∧ RowsO w' W.heap.size E us (rowsV x st0 steps) ∧ E ≤ w'.heap.size) ∧ Below W0.heap.size W0 w' ∧ Fx g W w' := by
  have hm1 : ∀ w, (method 286 86 (.pointer (some ⟨b, 0, none⟩)) "loop.example/g00031/impl.take").run Tryz.prog w = .ok (125, .pointer (some ⟨b, 0, none⟩)) w := fun _ => by kernel_rfl
  have hm2 : ∀ w, (method 286 86 (.pointer (some ⟨b, 0, none⟩)) "loop.example/g00031/impl.settle").run Tryz.prog w = .ok (124, .pointer (some ⟨b, 0, none⟩)) w := fun _ => by kernel_rfl
  have hm3 : ∀ w, (method 286 86 (.pointer (some ⟨b, 0, none⟩)) "loop.example/g00031/impl.tick").run Tryz.prog w = .ok (126, .pointer (some ⟨b, 0, none⟩)) w := fun _ => by kernel_rfl
  have hm4 : ∀ w, (method 286 86 (.pointer (some ⟨b, 0, none⟩)) "loop.example/g00031/impl.row").run Tryz.prog w = .ok (123, .pointer (some ⟨b, 0, none⟩)) w := fun _ => by kernel_rfl
  obtain ⟨w0, w1, w2, w3, w4, w5, hu, r0, r1, r2, r3, r4, r5⟩ := hr
  obtain ⟨rfl, rfl, rfl, rfl, rfl, rfl⟩ : w0 = _ ∧ w1 = _ ∧ w2 = _ ∧ w3 = _ ∧ w4 = _ ∧ w5 = _ := by simpa [eq_comm] using hu
  have hgs : g < W.heap.size := h.lt
  have hbs : b < W.heap.size := World.block_lt_of_cell? _ _ h.cells.1
  have hBs := hB.size
  obtain ⟨n0, n2, n3, n4, n5, hnext, hinit, hclock, hands, houts, hchecks⟩ := hx
  obtain ⟨a, c, rfl⟩ := hs.slice
  have HCS : Hid (∀ (i : Nat) s, steps[i]? = some s → ∃ b o vi vt, a = some ⟨b, o, none⟩ ∧ W0.cell? ⟨b, o + i * 2, none⟩ = some vi ∧ W0.cell? ⟨b, o + i * 2 + 1, none⟩ = some vt ∧ RS 1 RStr W0 0 s.ins vi ∧ RS 1 RBool W0 0 s.ticks vt) := hide (by
    intro i s hi
    rcases hs.open with ⟨rfl, _⟩ | ⟨b, o, c', hv, _, _, _, he⟩
    · simp at hi
    · injection hv with e1 e2 e3
      obtain ⟨u, hu, hat, vi, vt, hux, h1, h2⟩ := he i s hi
      subst hux
      exact ⟨b, o, vi, vt, e1, by simpa using hat.get (j := 0) rfl, by simpa using hat.get (j := 1) rfl, h1, h2⟩)
  clear hs hu
  obtain ⟨i0, hi, hz0, hz1, hz2⟩ := info_parts info75
  have HI := hide (And.intro hi (And.intro hz0 (And.intro hz1 hz2)))
  have HFT := hide hfit
  have HH := hide h
  have HB := hide hB
  have HR2 := hide r2
  have HR3 := hide r3
  have HR4 := hide r4
  have HR5 := hide r5
  clear hi hz0 hz1 hz2 hfit h hB r0 r1 r2 r3 r4 r5
  go_enter Tryz.func35, Tryz.ntmps35
  go_wp2_with fail
  go_loopw [5, 10] (fun v i wr => ∃ (k : Nat) (us : List (Value × Value × Value)) (E : Nat) (ins an : List Bool), k ≤ steps.length ∧ i = .int .i64 k ∧ wr.ownsRow W.heap.size 74 3 v k (rcs us) ∧ RowsO wr W.heap.size E us (rowsV x st0 (steps.take k)) ∧ E ≤ wr.heap.size ∧ ins.length = x.ins.length ∧ an.length = x.luts.length ∧ Ob W0.heap.size wr b g [.slice s0 x.ins.length c0, .slice s1 x.clocks.length c1, .slice s2 x.regs.length c2, .slice s3 x.luts.length c3, .slice s4 x.outs.length c4, .slice s5 x.checks.length c5] (ins ++ (statesV x st0 (steps.take k) ++ an)) ∧ Fx g W wr) (fun _ i wr => steps.length - (intOf i).toNat)
  case atStart => exact ⟨0, [], W.heap.size, ins0, an0, Nat.zero_le _, rfl, World.ownsRow_nil _ _ _ _, .nil _, Nat.le_refl _, hi0, ha0, unhide HH, Fx.refl _ _⟩
  case round =>
    obtain ⟨k, us, E, ins, an, hk, rfl, hown, hrows, hE, hil, hal, ho, hfx⟩ := hrel
    by_cases hlt : k < steps.length
    · have hsk : steps[k]? = some steps[k] := List.getElem?_eq_getElem hlt
      have hft := unhide HFT _ (List.getElem_mem hlt)
      generalize steps[k] = s at hsk hft
      obtain ⟨hf1, hf2, hf3⟩ := hft
      obtain ⟨bb, oo, vi, vt, rfl, hc0, hc1, hsi, hst⟩ := unhide HCS k s hsk
      obtain ⟨ai, ci, hvi⟩ := hsi.slice
      obtain ⟨ak, ct, hvt⟩ := hst.slice
      rw [hf1] at hvi
      rw [hf2] at hvt
      subst hvi hvt
      have hbw : Below W0.heap.size W0 wr := hfx.below (unhide HB) (unhide HH).hg (by omega)
      have k0 := cell_later hbw hc0
      have k1 := cell_later hbw hc1
      have hstl := statesV_len x (steps.take k) st0 hst0
      have hStep : rowsV x st0 (steps.take (k + 1)) = rowsV x st0 (steps.take k) ++ [rowV x (lutsV (baseV (s.ins.map bit1) (stepV x (statesV x st0 (steps.take k)) s)) x.luts) (stepV x (statesV x st0 (steps.take k)) s)] := by
        rw [List.take_add_one, hsk, Option.toList_some, rowsV_append]; rfl
      have hStates : statesV x st0 (steps.take (k + 1)) = stepV x (statesV x st0 (steps.take k)) s := by
        rw [List.take_add_one, hsk, Option.toList_some, statesV_append]; rfl
      have HSR := hide (step_row x (statesV x st0 (steps.take k)) s hstl hf1)
      rw [← hStates] at HSR hStep
      have hNext : stepV x (statesV x st0 (steps.take k)) s = nextV s.ticks (lutsV (baseV (s.ins.map bit1) (statesV x st0 (steps.take k))) x.luts) x.regs (statesV x st0 (steps.take k)) := rfl
      rw [← hStates] at hNext
      have hstl' := statesV_len x (steps.take (k + 1)) st0 hst0
      have HSTEP := hide hStep
      clear hStep hStates
      generalize statesV x st0 (steps.take k) = st at *
      generalize hste : statesV x st0 (steps.take (k + 1)) = st' at *
      have HSTE := hide hste
      clear hste
      obtain ⟨B1, hW1⟩ : ∃ B1, B1 = wr.alloc (.cells #[.slice ai x.ins.length ci, .slice ak x.clocks.length ct] 71) := ⟨_, rfl⟩
      have hbB : Below wr.heap.size wr B1 := by rw [hW1]; exact bal (brf wr) _
      have hgw := hfx.size
      have hbox1 : B1.cell? ⟨wr.heap.size, 1, none⟩ = some (.slice ak x.clocks.length ct) := by rw [hW1, World.cell?_alloc_new]; rfl
      have HTK := hide (iTake (ho.later hbB) s.ins _ hsi (hbw.trans (hbB.mono hbw.size)) rfl (by simp only [List.length_append]; omega) (by simp only [List.length_append]; omega) hf3)
      have HFX1 := hide (Fx.of (g := g) hbB)
      have HOWN := hide hown
      have HROWS := hide hrows
      have HFX := hide hfx
      have HBX := hide hbox1
      have HBW := hide hbw
      have HW1 := hide hW1
      have HST := hide hst
      clear hown hrows ho hfx hbw hc0 hc1 hsi hst HCS hsk hbB hW1
      go_wp2_with fail
      rw [← unhide HW1]
      refine (unhide HTK).mono ?_
      rintro e V1 ⟨rfl, ho1, hfx1⟩
      have hf01 := (unhide HFX1).trans hfx1
      have hdr : (ins ++ (st ++ an)).drop s.ins.length = st ++ an := by rw [hf1, ← hil, List.drop_left]
      rw [hdr] at ho1
      have ho1' : Ob W0.heap.size V1 b g [.slice s0 x.ins.length c0, .slice s1 x.clocks.length c1, .slice s2 x.regs.length c2, .slice s3 x.luts.length c3, .slice s4 x.outs.length c4, .slice s5 x.checks.length c5] (baseV (s.ins.map bit1) st ++ an) := by
        have e : baseV (s.ins.map bit1) st ++ an = s.ins.map bit1 ++ (st ++ an) := by unfold baseV; simp
        rw [e]; exact ho1
      have hbw1 : Below W0.heap.size W0 V1 := hf01.below (unhide HBW) (unhide HH).hg (by have := (unhide HBW).size; omega)
      have hbl1 : (baseV (s.ins.map bit1) st).length = x.ins.length + x.regs.length := by unfold baseV; simp [hf1]; try omega
      have HSE := hide (iSettle ho1' x.luts (unhide HR3) hbw1 (by omega) (by omega) n3 hbl1 hal (by rw [hbl1]; exact hands))
      have HBX1 := hide (hfx1.cell1 (b := wr.heap.size) (by omega) (unhide HBX))
      have HF01 := hide hf01
      have HBW1 := hide hbw1
      clear ho1 ho1' hfx1 hf01 hbw1 hdr HTK HFX1
      go_wp2_with fail
      refine (unhide HSE).mono ?_
      rintro e V2 ⟨rfl, ho2, hfx2⟩
      obtain ⟨rr, hrr⟩ := lutsV_pre x.luts (baseV (s.ins.map bit1) st)
      have hrl : rr.length = x.luts.length := by
        have := congrArg List.length hrr
        rw [lutsV_len, List.length_append] at this
        omega
      have hve : lutsV (baseV (s.ins.map bit1) st) x.luts = s.ins.map bit1 ++ (st ++ rr) := by rw [hrr]; unfold baseV; simp
      have hvl : (s.ins.map bit1 ++ (st ++ rr)).length = x.ins.length + x.regs.length + x.luts.length := by simp [hf1]; try omega
      have hf02 := (unhide HF01).trans hfx2
      have hbw2 : Below W0.heap.size W0 V2 := hf02.below (unhide HBW) (unhide HH).hg (by have := (unhide HBW).size; omega)
      rw [hve] at ho2
      have HTI := hide (iTick ho2 x.regs (unhide HR2) s.ticks _ (unhide HST) hbw2 (by omega) (by omega) (by simp [hf1]; try omega) hstl (by omega) (by rw [hvl]; exact hnext) (by rw [hf2]; exact hclock))
      rw [← hve, ← hNext] at HTI
      have kb := hfx2.cell1 (b := wr.heap.size) (by omega) (unhide HBX1)
      have HF02 := hide hf02
      clear ho2 hfx2 hf02 hbw2 HSE HF01 hve
      go_wp2_with fail
      refine (unhide HTI).mono ?_
      rintro e V3 ⟨rfl, ho3, hfx3⟩
      have hf03 := (unhide HF02).trans hfx3
      have hbw3 : Below W0.heap.size W0 V3 := hf03.below (unhide HBW) (unhide HH).hg (by have := (unhide HBW).size; omega)
      have ho3' : Ob W0.heap.size V3 b g [.slice s0 x.ins.length c0, .slice s1 x.clocks.length c1, .slice s2 x.regs.length c2, .slice s3 x.luts.length c3, .slice s4 x.outs.length c4, .slice s5 x.checks.length c5] (baseV (s.ins.map bit1) st' ++ rr) := by
        have e : baseV (s.ins.map bit1) st' ++ rr = s.ins.map bit1 ++ (st' ++ rr) := by unfold baseV; simp
        rw [e]; exact ho3
      have hbl3 : (baseV (s.ins.map bit1) st').length = x.ins.length + x.regs.length := by unfold baseV; simp [hf1]; try omega
      have HSE := hide (iSettle ho3' x.luts (unhide HR3) hbw3 (by omega) (by omega) n3 hbl3 hrl (by rw [hbl3]; exact hands))
      have HF03 := hide hf03
      clear ho3 ho3' hfx3 hf03 hbw3 HTI HF02 kb
      go_wp2_with fail
      refine (unhide HSE).mono ?_
      rintro e V4 ⟨rfl, ho4, hfx4⟩
      have hf04 := (unhide HF03).trans hfx4
      have hbw4 : Below W0.heap.size W0 V4 := hf04.below (unhide HBW) (unhide HH).hg (by have := (unhide HBW).size; omega)
      have hvl4 : (lutsV (baseV (s.ins.map bit1) st') x.luts).length = x.ins.length + x.regs.length + x.luts.length := by rw [lutsV_len, hbl3]
      have HRO := hide (iRow ho4 x.outs x.checks (unhide HR4) (unhide HR5) hbw4 (by omega) (by omega) n4 n5 (by omega) (by omega) (by rw [hvl4]; exact houts) (by rw [hvl4]; exact hchecks))
      obtain ⟨rr4, hrr4⟩ := lutsV_pre x.luts (baseV (s.ins.map bit1) st')
      have hrl4 : rr4.length = x.luts.length := by
        have := congrArg List.length hrr4
        rw [lutsV_len, List.length_append] at this
        omega
      have hve4 : lutsV (baseV (s.ins.map bit1) st') x.luts = s.ins.map bit1 ++ (st' ++ rr4) := by rw [hrr4]; unfold baseV; simp
      have HO4 := hide ho4
      have HF04 := hide hf04
      clear ho4 hfx4 hf04 hbw4 HSE HF03
      go_wp2_with fail
      refine (unhide HRO).mono ?_
      rintro e V5 ⟨⟨vo, vc, vr, E1, E2, rfl, hE1, hE2, o1, b1, o2, b2, o3, hE3⟩, hb5⟩
      have hf05 := (unhide HF04).trans (Fx.of (g := g) hb5)
      have hgz : W.heap.size ≤ wr.heap.size := hgw
      have hz04 := (unhide HF04).size
      have hz5 := hb5.size
      have hown5 := own_fx (unhide HOWN) hf05 hgs
      have hrows5 := (unhide HROWS).fx hf05 hgs
      have hbnd3 : Bnd vr V5.heap.size := fun j hj => (World.ownsRow.lt o3.1 j hj).2
      have hrow := RowsO.snoc (r := ⟨x.outs.map (fun p => txt1 (srcV (lutsV (baseV (s.ins.map bit1) st') x.luts) p.src)), x.checks.map (fun p => txt1 (srcV (lutsV (baseV (s.ins.map bit1) st') x.luts) p.src)), (List.range x.regs.length).map (fun i => txt1 ((lutsV (baseV (s.ins.map bit1) st') x.luts).getD (x.ins.length + i) false))⟩) hrows5 (by omega : E ≤ E1) hE2 hE3 (o1.low (by omega)) b1 o2 b2 o3 hbnd3
      rw [unhide HSR, ← unhide HSTEP] at hrow
      obtain ⟨a1, m1, d1, rfl⟩ := o1.shape
      obtain ⟨a2, m2, d2, rfl⟩ := o2.shape
      obtain ⟨a3, m3, d3, rfl⟩ := o3.shape
      have HROW := hide (hrow.later (bal (brf V5) (.cells #[.slice a1 m1 d1, .slice a2 m2 d2, .slice a3 m3 d3] 74)))
      have HOWN5 := hide (own_later hown5 (bal (brf V5) (.cells #[.slice a1 m1 d1, .slice a2 m2 d2, .slice a3 m3 d3] 74)))
      have HOB5 := hide (((unhide HO4).later hb5).later (bal (brf V5) (.cells #[.slice a1 m1 d1, .slice a2 m2 d2, .slice a3 m3 d3] 74)))
      have HF5 := hide (((unhide HFX).trans hf05).trans (Fx.of (g := g) (bal (brf V5) (.cells #[.slice a1 m1 d1, .slice a2 m2 d2, .slice a3 m3 d3] 74))))
      have HSZ5 := hide (show W.heap.size ≤ V5.heap.size by have := hf05.size; omega)
      clear hrow hown5 hrows5 o1 o2 o3 b1 b2 hbnd3 hf05 hb5 HRO HO4 hE1 hE2 hE3 hz5 HF04 HROWS HOWN
      go_wp2_with (first
        | (at_builtin; refine wpList_append_own _ rfl _ _ 31 rfl W.heap.size 74 i0 (.agg #[.slice none 0 0, .slice none 0 0, .slice none 0 0]) 3 72 Tryz.underlying31 (unhide HI).1 (unhide HI).2.1 (unhide HI).2.2.1 (unhide HI).2.2.2 rfl (by decide) _ _ _ rfl (unhide HOWN5) ⟨V5.heap.size, 0, none⟩ 1 1 [.slice a1 m1 d1, .slice a2 m2 d2, .slice a3 m3 d3] rfl rfl (newR _ _ _ _ _ rfl) (oneR _ _ _ _ _ _ _ _ _) (by unfold maxLen; omega) (by omega) (by have := unhide HSZ5; simp; omega) ?_; intro v' w2 hown' hgrow _)
        | go_in)
      have hlow := below_grown (Below.refl W.heap.size (V5.alloc (.cells #[.slice a1 m1 d1, .slice a2 m2 d2, .slice a3 m3 d3] 74))) hgrow (by have := unhide HSZ5; simp; omega) (fun j hj => (World.ownsRow.lt (unhide HOWN5) j hj).1)
      have HR : Hid (w2.ownsRow W.heap.size 74 3 v' (k + 1) (rcs (us ++ [(.slice a1 m1 d1, .slice a2 m2 d2, .slice a3 m3 d3)])) ∧ RowsO w2 W.heap.size V5.heap.size (us ++ [(.slice a1 m1 d1, .slice a2 m2 d2, .slice a3 m3 d3)]) (rowsV x st0 (steps.take (k + 1))) ∧ V5.heap.size ≤ w2.heap.size ∧ Ob W0.heap.size w2 b g [.slice s0 x.ins.length c0, .slice s1 x.clocks.length c1, .slice s2 x.regs.length c2, .slice s3 x.luts.length c3, .slice s4 x.outs.length c4, .slice s5 x.checks.length c5] (s.ins.map bit1 ++ (st' ++ rr4)) ∧ Fx g W w2) := hide (by
        refine ⟨by rw [rcs_append]; exact hown', (unhide HROW).grown hgrow (own_type (unhide HOWN5)), ?_, ?_, (unhide HF5).grow hlow⟩
        · have := hgrow.size; simp at this; omega
        · rw [← hve4]; exact (unhide HOB5).below hlow hbs hgs)
      clear hown' hgrow hlow
      go_roundw
      case rel => exact ⟨k + 1, _, _, s.ins.map bit1, rr4, by omega, by go_num, (unhide HR).1, (unhide HR).2.1, (unhide HR).2.2.1, by rw [List.length_map]; exact hf1, hrl4, by rw [unhide HSTE]; exact (unhide HR).2.2.2.1, (unhide HR).2.2.2.2⟩
      case measure => simp [intOf]; omega
    · obtain rfl : k = steps.length := by omega
      rw [List.take_of_length_le (Nat.le_refl _)] at hrows
      have HOWN := hide hown
      have HROWS := hide hrows
      have HFX := hide hfx
      have HBW := hide (hfx.below (unhide HB) (unhide HH).hg (by omega))
      clear hown hrows ho hfx HCS
      go_wp2
      exact bodyPost_ret (v := u5) (by simp [results, Tryz.results35, go_sem]) rfl ⟨⟨_, us, E, rfl, unhide HOWN, unhide HROWS, hE⟩, unhide HBW, unhide HFX⟩
end Go.Proofs.YthbcokioijpofabGreat
