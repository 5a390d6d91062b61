/- The specification's AigRun: the loop of the next states. -/
import Derived.Test.YtaamibonpmijaaaGreatQb
import Derived.Test.YtaamibonpmijaaaGreatAE
import Derived.Test.YtaamibonpmijaaaGreatQ10
import Derived.BigQuiet
namespace Go.Proofs.YtaamibonpmijaaaGreat
open Go Go.RowKit Gs
set_option linter.unusedVariables false
set_option linter.unusedSimpArgs false
set_option maxRecDepth 100000
theorem heap_setI {w : World} {b i : Nat} {cur : Array Value} {v : Value} {t : TypeId} {f : Nat × Nat} (h : w.heap[b]? = some (.cells cur t f)) : (w.setCell ⟨b, i, none⟩ v).heap[b]? = some (.cells (cur.setIfInBounds i v) t f) := by
  simp [World.setCell, Array.getElem?_modify, h]
theorem OI.set {B : Nat} {W : World} {g l c : Nat} {xs : List Int} (h : OI B W (.slice (some ⟨g, 0, none⟩) l c) xs) (j : Nat) (y : Int) : OI B (W.setCell ⟨g, j, none⟩ (.int .i64 y)) (.slice (some ⟨g, 0, none⟩) l c) (xs.set j y) := by
  obtain ⟨h1, h2⟩ := h
  refine ⟨by simp, ?_⟩
  rcases h2 with ⟨e, hn⟩ | ⟨g', cap, cur, e, hb, hg, hlc, hm, hcs, ht⟩
  · cases e
  · injection e with e1 e2 e3
    injection e1 with e1
    injection e1 with e1
    subst e1 e2 e3
    refine .inr ⟨g, _, _, by rw [List.length_set], hb, heap_setI hg, by rw [List.length_set]; exact hlc, hm, by simpa using hcs, ?_⟩
    rw [Array.toList_setIfInBounds, List.length_set, List.take_set, ht, List.map_set]
theorem OI.atS {B : Nat} {v : Value} {xs : List Int} {W : World} (h : OI B W v xs) (hne : 0 < xs.length) : ∃ g c, v = .slice (some ⟨g, 0, none⟩) xs.length c ∧ B ≤ g ∧ ∀ (i : Nat) y, xs[i]? = some y → W.cell? ⟨g, i, none⟩ = some (.int .i64 y) ∧ W.frozen? ⟨g, i, none⟩ = false := by
  have hc := fun g hg => World.ownsRow.cells h (g := g) hg
  rcases h.2 with ⟨rfl, hn⟩ | ⟨g, cap, cur, rfl, hb, hg, hlc, hm, _⟩
  · omega
  · refine ⟨g, cap, rfl, hb, fun i y hy => ⟨?_, by simp [World.frozen?, hg]⟩⟩
    have := hc g rfl i (.int .i64 y) (by rw [List.getElem?_map, hy]; rfl)
    rw [Addr.add_lit] at this
    simpa using this
theorem set_at {α : Type} (ms xs : List α) (y : α) {j : Nat} (ha : ms.length = j) (hj : j < xs.length) : (ms ++ xs.drop j).set j y = (ms ++ [y]) ++ xs.drop (j + 1) := by
  subst ha
  rw [List.set_append_right _ _ (Nat.le_refl _), Nat.sub_self, List.drop_eq_getElem_cons hj, List.set_cons_zero, List.append_assoc, List.singleton_append]
theorem OI.drewN {B n : Nat} {v : Value} {xs : List Int} {W : World} (h : OI B W v xs) : OI B (W.drewN n) v xs := h
/-- The states while the latches take what they are to be. -/
def midV (ticks vs : List Bool) (ls : List Latch) (st : List Bool) (k : Nat) : List Bool := nextV ticks vs (ls.take k) (st.take k) ++ st.drop k
set_option maxHeartbeats 16000000 in
theorem sL5 {u0 u3 u4 u5 u6 u7 u8 u9 u10 u12 u13 u17 u18 u19 u20 u21 u22 u23 u24 u25 u26 u27 u28 u29 u30 u31 u32 u33 u34 u35 u36 u37 u38 u39 u40 u41 u42 u43 u44 u45 u46 u47 u48 u49 u50 u51 u52 u53 u54 u55 u56 u57 u58 u59 u60 u61 u62 u63 u64 u65 u66 u67 u68 u69 u70 u71 u72 u73 u74 u75 u76 u77 u78 u79 u80 u81 u82 u83 u84 u85 u86 u87 u88 u89 u90 u91 u92 u93 u94 u95 u96 u97 u98 u99 u100 u101 u102 u103 u104 u105 u106 u107 u108 u109 u110 u111 u112 u113 u114 u115 u116 u117 u118 u119 u120 u121 u122 u123 u124 u125 u126 u127 u128 u129 u130 u131 u132 u133 u134 u135 u136 u137 u138 u139 u140 u141 u142 u143 u144 u145 u146 u147 u148 u149 u150 u151 u152 u153 u154 u155 u156 u157 u158 u159 u160 u161 u162 u163 u164 u165 u166 u167 u168 u169 u170 u171 u172 u173 u174 u175 u176 u177 u178 u179 u180 u181 u182 u183 u184 u185 u186 u187 u188 u189 u190 u191 u192 u193 u194 u195 u196 u197 u198 u199 u200 : Value} {pb sb so sl sc K l2 c2 lt ct n8 c8 : Nat} {s2 stk sa : Option Addr} {iv : Value} {vs ticks st : List Bool} {ls : List Latch} {W0 W : World} {Q : Exit → Act → World → Prop} (hK : K < sl) (hsl : sl ≤ 4096) (hl2 : l2 = ls.length) (hlt' : lt = ticks.length) (hnb : ls.length ≤ 1048576) (hsl2 : st.length = ls.length) (hvl : vs.length ≤ 1048576 * 8) (htb : ticks.length ≤ 1048576)
    (HBX : Hid (∀ V, Below W0.heap.size W0 V → V.cell? ⟨pb, 2, none⟩ = some (.slice s2 l2 c2))) (HSC : Hid (W0.cell? ⟨sb, so + K * 2 + 1, none⟩ = some (.slice stk lt ct))) (HTK : Hid (∀ (i : Nat) x, ticks[i]? = some x → ∃ b o, stk = some ⟨b, o, none⟩ ∧ W0.cell? ⟨b, o + i, none⟩ = some (.bool x)))
    (HLS : Hid (∀ (i : Nat) x, ls[i]? = some x → ∃ b o, s2 = some ⟨b, o, none⟩ ∧ W0.cell? ⟨b, o + i * 4 + 1, none⟩ = some (.int .i64 x.next) ∧ W0.cell? ⟨b, o + i * 4 + 3, none⟩ = some (.int .i64 x.clock)))
    (HNX : Hid (∀ l ∈ ls, 0 ≤ l.next ∧ l.next < 2 * (vs.length : Int))) (HCK : Hid (∀ l ∈ ls, 0 ≤ l.clock ∧ l.clock < (ticks.length : Int))) (HIV : Hid (RS 1 RInt W0 0 (vs.map b2i) iv))
    (HO : Hid (OI W0.heap.size W (.slice sa n8 c8) (st.map b2i))) (HB0 : Hid (Below W0.heap.size W0 W))
    (hQ : ∀ (z16 z101 z102 z103 z104 z105 z106 z107 z108 z109 z110 z111 z112 z113 z114 z115 z116 z117 z118 z119 z120 z121 z122 z123 z124 z125 z126 z127 z128 z129 z130 z131 : Value) V, OI W0.heap.size V (.slice sa n8 c8) ((nextV ticks vs ls st).map b2i) → Below W0.heap.size W0 V → Q (.exit 8) { tmps := (u0 :: .slice (some ⟨sb, so, none⟩) sl sc :: .pointer (some ⟨pb, 0, none⟩) :: u3 :: u4 :: u5 :: u6 :: u7 :: u8 :: u9 :: u10 :: .int .i64 (K : Int) :: u12 :: u13 :: iv :: .slice sa n8 c8 :: z16 :: u17 :: u18 :: u19 :: u20 :: u21 :: u22 :: u23 :: u24 :: u25 :: u26 :: u27 :: u28 :: u29 :: u30 :: u31 :: u32 :: u33 :: u34 :: u35 :: u36 :: u37 :: u38 :: u39 :: u40 :: u41 :: u42 :: u43 :: u44 :: u45 :: u46 :: u47 :: u48 :: u49 :: u50 :: u51 :: u52 :: u53 :: u54 :: u55 :: u56 :: u57 :: u58 :: u59 :: u60 :: u61 :: u62 :: u63 :: u64 :: u65 :: u66 :: u67 :: u68 :: u69 :: u70 :: u71 :: u72 :: u73 :: u74 :: u75 :: u76 :: u77 :: u78 :: u79 :: u80 :: u81 :: u82 :: u83 :: u84 :: u85 :: u86 :: u87 :: u88 :: u89 :: u90 :: u91 :: u92 :: u93 :: u94 :: u95 :: u96 :: u97 :: u98 :: u99 :: u100 :: z101 :: z102 :: z103 :: z104 :: z105 :: z106 :: z107 :: z108 :: z109 :: z110 :: z111 :: z112 :: z113 :: z114 :: z115 :: z116 :: z117 :: z118 :: z119 :: z120 :: z121 :: z122 :: z123 :: z124 :: z125 :: z126 :: z127 :: z128 :: z129 :: z130 :: z131 :: u132 :: u133 :: u134 :: u135 :: u136 :: u137 :: u138 :: u139 :: u140 :: u141 :: u142 :: u143 :: u144 :: u145 :: u146 :: u147 :: u148 :: u149 :: u150 :: u151 :: u152 :: u153 :: u154 :: u155 :: u156 :: u157 :: u158 :: u159 :: u160 :: u161 :: u162 :: u163 :: u164 :: u165 :: u166 :: u167 :: u168 :: u169 :: u170 :: u171 :: u172 :: u173 :: u174 :: u175 :: u176 :: u177 :: u178 :: u179 :: u180 :: u181 :: u182 :: u183 :: u184 :: u185 :: u186 :: u187 :: u188 :: u189 :: u190 :: u191 :: u192 :: u193 :: u194 :: u195 :: u196 :: u197 :: u198 :: u199 :: u200 :: []).toArray, defers := [] } V) :
    Code.wp Tryz.prog (atB 8 (bodyOf Tryz.f6)) Q { tmps := (u0 :: .slice (some ⟨sb, so, none⟩) sl sc :: .pointer (some ⟨pb, 0, none⟩) :: u3 :: u4 :: u5 :: u6 :: u7 :: u8 :: u9 :: u10 :: .int .i64 (K : Int) :: u12 :: u13 :: iv :: .slice sa n8 c8 :: .int .i64 0 :: u17 :: u18 :: u19 :: u20 :: u21 :: u22 :: u23 :: u24 :: u25 :: u26 :: u27 :: u28 :: u29 :: u30 :: u31 :: u32 :: u33 :: u34 :: u35 :: u36 :: u37 :: u38 :: u39 :: u40 :: u41 :: u42 :: u43 :: u44 :: u45 :: u46 :: u47 :: u48 :: u49 :: u50 :: u51 :: u52 :: u53 :: u54 :: u55 :: u56 :: u57 :: u58 :: u59 :: u60 :: u61 :: u62 :: u63 :: u64 :: u65 :: u66 :: u67 :: u68 :: u69 :: u70 :: u71 :: u72 :: u73 :: u74 :: u75 :: u76 :: u77 :: u78 :: u79 :: u80 :: u81 :: u82 :: u83 :: u84 :: u85 :: u86 :: u87 :: u88 :: u89 :: u90 :: u91 :: u92 :: u93 :: u94 :: u95 :: u96 :: u97 :: u98 :: u99 :: u100 :: u101 :: u102 :: u103 :: u104 :: u105 :: u106 :: u107 :: u108 :: u109 :: u110 :: u111 :: u112 :: u113 :: u114 :: u115 :: u116 :: u117 :: u118 :: u119 :: u120 :: u121 :: u122 :: u123 :: u124 :: u125 :: u126 :: u127 :: u128 :: u129 :: u130 :: u131 :: u132 :: u133 :: u134 :: u135 :: u136 :: u137 :: u138 :: u139 :: u140 :: u141 :: u142 :: u143 :: u144 :: u145 :: u146 :: u147 :: u148 :: u149 :: u150 :: u151 :: u152 :: u153 :: u154 :: u155 :: u156 :: u157 :: u158 :: u159 :: u160 :: u161 :: u162 :: u163 :: u164 :: u165 :: u166 :: u167 :: u168 :: u169 :: u170 :: u171 :: u172 :: u173 :: u174 :: u175 :: u176 :: u177 :: u178 :: u179 :: u180 :: u181 :: u182 :: u183 :: u184 :: u185 :: u186 :: u187 :: u188 :: u189 :: u190 :: u191 :: u192 :: u193 :: u194 :: u195 :: u196 :: u197 :: u198 :: u199 :: u200 :: []).toArray, defers := [] } W := by
  subst hl2 hlt'
  have HQ := hide hQ
  clear hQ
  conv => arg 2; whnf
  go_loopw [16] (fun i wr => ∃ (k : Nat), k ≤ ls.length ∧ i = .int .i64 k ∧ OI W0.heap.size wr (.slice sa n8 c8) ((midV ticks vs ls st k).map b2i) ∧ Below W0.heap.size W0 wr) (fun i wr => ls.length - (intOf i).toNat)
  case atStart => exact ⟨0, Nat.zero_le _, rfl, by unfold midV nextV; simpa using unhide HO, unhide HB0⟩
  case round =>
    obtain ⟨k, hk, rfl, hot, hb⟩ := hrel
    have q2 := unhide HBX wr hb
    by_cases hlt : k < ls.length
    · have hx : ls[k]? = some ls[k] := List.getElem?_eq_getElem hlt
      have hmem : ls[k] ∈ ls := List.getElem_mem hlt
      generalize ls[k] = x at hx hmem
      have hks : k < st.length := by omega
      have hxs : st[k]? = some st[k] := List.getElem?_eq_getElem hks
      generalize st[k] = sk at hxs
      obtain ⟨b, o, rfl, hc1, hc3⟩ := unhide HLS k x hx
      obtain ⟨n1, n2⟩ := unhide HNX x hmem
      obtain ⟨t1, t2⟩ := unhide HCK x hmem
      obtain ⟨ck, hck⟩ : ∃ ck : Nat, x.clock = ck := ⟨x.clock.toNat, by omega⟩
      have hckl : ck < ticks.length := by omega
      have htx : ticks[ck]? = some ticks[ck] := List.getElem?_eq_getElem hckl
      have htd : ticks.getD x.clock.toNat false = ticks[ck] := by rw [hck, Int.toNat_natCast, List.getD_eq_getElem?_getD, htx]; rfl
      generalize ticks[ck] = tk at htx htd
      obtain ⟨tb, to, rfl, hct⟩ := unhide HTK ck tk htx
      have k0 := cell_later hb (unhide HSC)
      have k1 := cell_later hb hc1
      have k3 := cell_later hb hc3
      have kt := cell_later hb hct
      rw [hck] at k3
      have hml : (nextV ticks vs (ls.take k) (st.take k)).length = k := by unfold nextV; rw [List.length_zipWith, List.length_take, List.length_take]; omega
      have hmid : (midV ticks vs ls st k).length = st.length := by unfold midV; rw [List.length_append, hml, List.length_drop]; omega
      have hstep : midV ticks vs ls st (k + 1) = nextV ticks vs (ls.take k) (st.take k) ++ [if tk then litV vs x.next else sk] ++ st.drop (k + 1) := by
        unfold midV
        rw [nextV_step ticks vs hx hxs, htd]
      have HB := hide hb
      have HOT := hide hot
      have i1 : (K : Int) < (sl : Int) := by omega
      have i2 : (k : Int) < (ls.length : Int) := by omega
      have i3 : (0 : Int) ≤ (ck : Int) := by omega
      have i4 : (ck : Int) < (ticks.length : Int) := by omega
      cases tk
      · have HR1 : Hid (OI W0.heap.size wr (.slice sa n8 c8) ((midV ticks vs ls st (k + 1)).map b2i)) := hide (by
          rw [hstep, if_neg (by decide)]
          have e : nextV ticks vs (ls.take k) (st.take k) ++ [sk] ++ st.drop (k + 1) = midV ticks vs ls st k := by
            unfold midV
            obtain ⟨_, e2⟩ := List.getElem?_eq_some_iff.1 hxs
            rw [List.drop_eq_getElem_cons hks, e2]; simp
          rw [e]; exact hot)
        clear hot hb hc1 hc3 hct hx hmem hxs htx htd hml hmid hstep n1 n2 t1 t2 hck HOT
        go_wp2_with fail
        go_quiet (fail)
        go_wp2_with fail
        go_roundw
        case rel => exact ⟨k + 1, by omega, by go_num, OI.drewN (unhide HR1), bdq (unhide HB)⟩
        case measure => simp [intOf]; omega
      · obtain ⟨g, c9, hv, hg, hcl⟩ := hot.atS (by rw [List.length_map, hmid]; omega)
        injection hv with hv1 hv2 hv3
        subst hv1 hv3
        have hn8 : n8 = ls.length := by rw [hv2, List.length_map, hmid]; omega
        subst hn8
        obtain ⟨hcc, hcf⟩ := hcl k (b2i ((midV ticks vs ls st k)[k]'(by omega))) (by rw [List.getElem?_map, List.getElem?_eq_getElem (by omega)]; rfl)
        generalize b2i ((midV ticks vs ls st k)[k]'(by omega)) = oldv at hcc
        have HCO : Hid (∀ V, Below wr.heap.size wr V → Calls Tryz.prog 26 #[iv, .int .i64 x.next] V fun e w' => e = .returned (.int .i64 (b2i (litV vs x.next))) ∧ w' = V) := hide (fun V hV => sOf vs iv x.next V ((unhide HIV).later RInt.keeps (btr hb hV)) n1 n2 hvl)
        have HST : Hid (∀ V : World, OI W0.heap.size V (.slice (some ⟨g, 0, none⟩) ls.length c8) ((midV ticks vs ls st k).map b2i) → OI W0.heap.size (V.setCell ⟨g, k, none⟩ (.int .i64 (b2i (litV vs x.next)))) (.slice (some ⟨g, 0, none⟩) ls.length c8) ((midV ticks vs ls st (k + 1)).map b2i)) := hide (fun V hV => by
          have := hV.set k (b2i (litV vs x.next))
          rw [← List.map_set] at this
          have e : (midV ticks vs ls st k).set k (litV vs x.next) = midV ticks vs ls st (k + 1) := by
            rw [hstep, if_pos rfl]
            unfold midV
            rw [set_at _ _ _ hml hks]
          rw [e] at this; exact this)
        have HG := hide hg
        clear hot hb hc1 hc3 hct hx hmem hxs htx htd hml hmid hstep n1 n2 t1 t2 hck hcl hv2
        generalize litV vs x.next = A at *
        generalize x.next = z at *
        generalize midV ticks vs ls st k = mid at *
        go_wp2_with fail
        go_quiet (fail)
        go_wp2_with (first | (go_at_call 26; refine (unhide HCO _ (bdq (brf wr))).mono ?_; rintro e W1 ⟨rfl, hW1⟩; subst hW1))
        go_roundw
        case rel => exact ⟨k + 1, by omega, by go_num, unhide HST _ (OI.drewN (unhide HOT)), (bdq (unhide HB)).setCell (unhide HG) _⟩
        case measure => simp [intOf]; omega
    · obtain rfl : k = ls.length := by omega
      have e : midV ticks vs ls st ls.length = nextV ticks vs ls st := by
        unfold midV
        rw [List.take_of_length_le (Nat.le_refl _), List.take_of_length_le (by omega), List.drop_of_length_le (by omega), List.append_nil]
      rw [e] at hot
      have HOT := hide hot
      have HB := hide hb
      clear hot hb
      go_wp2_with fail
      exact unhide HQ _ _ _ _ _ _ _ _ _ _ _ _ _ _ _ _ _ _ _ _ _ _ _ _ _ _ _ _ _ _ _ _ wr (unhide HOT) (unhide HB)
end Go.Proofs.YtaamibonpmijaaaGreat
