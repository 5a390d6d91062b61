/- The specification's MapRun: the loop of the shape's inputs. -/
import Derived.Test.YthbcokioijpofabGreatGq
import Derived.Test.YthbcokioijpofabGreatAE
namespace Go.Proofs.YthbcokioijpofabGreat
open Go Go.RowKit Gs
set_option linter.unusedVariables false
set_option linter.unusedSimpArgs false
set_option maxRecDepth 100000
def portsL (k : Nat) : List Value := (List.replicate k [Value.string ⟨#[]⟩, .int .i64 1]).flatten
theorem portsL_len (k : Nat) : (portsL k).length = k * 2 := by
  unfold portsL
  induction k with
  | zero => rfl
  | succ k ih => rw [List.replicate_succ, List.flatten_cons, List.length_append, ih]; simp; omega
theorem portsL_succ (k : Nat) : portsL (k + 1) = portsL k ++ [Value.string ⟨#[]⟩, .int .i64 1] := by
  unfold portsL
  rw [List.replicate_succ', List.flatten_append]; rfl
theorem portsL_get : ∀ (k i : Nat), i < k → (portsL k)[i * 2 + 1]? = some (.int .i64 1)
  | 0, i, h => by omega
  | k + 1, i, h => by
    rw [portsL_succ]
    by_cases e : i < k
    · rw [List.getElem?_append_left (by rw [portsL_len]; omega)]; exact portsL_get k i e
    · obtain rfl : i = k := by omega
      rw [List.getElem?_append_right (by rw [portsL_len]; omega), portsL_len]
      have : i * 2 + 1 - i * 2 = 1 := by omega
      rw [this]; rfl
theorem info65 : (Tryz.prog.info? 65).map (fun i => (i.zero, i.size, i.bytes)) = some (some (.agg #[.string ByteArray.empty, .int .i64 0]), 2, 24) := by kernel_rfl
theorem own_fxg {W W' : World} {B n q e sz : Nat} {v : Value} {xs : List Value} (h : W.ownsRow B e sz v n xs) (hf : Fx q W W') (hq : q < B) : W'.ownsRow B e sz v n xs := by
  obtain ⟨h1, h2 | ⟨g, cap, cur, hv, hb, hc, rest⟩⟩ := h
  · exact ⟨h1, .inl h2⟩
  · exact ⟨h1, .inr ⟨g, cap, cur, hv, hb, (hf.block g (Array.getElem?_eq_some_iff.1 hc).1 (by omega)).trans hc, rest⟩⟩
theorem own_shape {W : World} {B n e sz : Nat} {v : Value} {xs : List Value} (h : W.ownsRow B e sz v n xs) : ∃ a c, v = .slice a n c := by
  rcases h.2 with ⟨rfl, rfl⟩ | ⟨g, cap, cur, rfl, _⟩
  · exact ⟨_, _, rfl⟩
  · exact ⟨_, _, rfl⟩
theorem newP (W : World) (x y : Value) (g : Nat) (hg : g = W.heap.size) : ∀ j u, [x, y][j]? = some u → (W.alloc (.cells #[x, y] 65)).cell? ((⟨g, 0, none⟩ : Addr).add j) = some u := by
  intro j u h
  subst hg
  match j, h with
  | 0, h => simp at h; subst h; simp [Addr.add]
  | 1, h => simp at h; subst h; simp [Addr.add]
  | j + 2, h => simp at h
theorem oneP : ∀ u ∈ [Value.string ⟨#[]⟩, .int .i64 1], u.oneCell' = true := by
  intro u hu; simp at hu; rcases hu with rfl | rfl <;> rfl
theorem row_stepg {q N j e sz n : Nat} {W wr V V' : World} {tv v : Value} {xs : List Value} (hN : N = W.heap.size) (hq : q < N) (hfx : Fx q W wr) (hcj : RC wr q j tv) (hoth : ∀ i y, i ≠ j → RC W q i y → RC wr q i y) (hOT : V'.ownsRow N e sz v n xs) (hlow : Below N wr V') (hV : V = V'.setCell ⟨q, j, none⟩ v) :
    V.ownsRow N e sz v n xs ∧ Fx q W V ∧ RC V q j v ∧ (∀ i y, i ≠ j → RC W q i y → RC V q i y) := by
  have h1 : Fx q W V' := ⟨hlow.os.trans hfx.os, hlow.tape.trans hfx.tape, hlow.output.trans hfx.output, Nat.le_trans hfx.size hlow.size, fun i hi hne => (hlow.block i (by omega)).trans (hfx.block i hi hne)⟩
  have ec := fun i => hlow.cell (p := ⟨q, i, none⟩) (by show q < _; omega)
  have ef := fun i => hlow.frozen (p := ⟨q, i, none⟩) (by show q < _; omega)
  subst hV
  refine ⟨own_fxg hOT (Fx.set _ _ _ _) hq, h1.trans (Fx.set _ _ _ _), ⟨sameCell _ _ _ _ ((ec j).trans hcj.1), by rw [frozSet]; exact (ef j).trans hcj.2⟩, fun i y hne hy => ?_⟩
  have := hoth i y hne hy
  exact ⟨otherCell _ _ _ _ ((ec i).trans this.1) (.inr hne), by rw [frozSet]; exact (ef i).trans this.2⟩
set_option maxHeartbeats 16000000 in
theorem sL1 {u0 u1 u3 u4 u5 u8 u9 u10 u11 u12 u13 u14 u15 u16 u17 u18 u19 u20 u21 u22 u23 u24 u25 u26 u27 u28 u29 u30 u31 u32 u33 u34 u35 u36 u37 u38 u39 u40 u41 u42 u43 u44 u45 u46 u47 u48 u49 u50 u51 u52 u53 u54 u55 u56 u57 u58 u59 u60 u61 u62 u63 u64 u65 u66 u67 u68 u69 u70 u71 u72 u73 u74 u75 u76 u77 u78 u79 u80 u81 u82 u83 u84 u85 u86 u87 u88 u89 u90 u91 u92 u93 u94 u95 u96 u97 u98 u99 u100 u101 u102 u103 u104 u105 u106 u107 u108 u109 u110 u111 u112 u113 u114 u115 u116 u117 u118 u119 u120 u121 u122 u123 u124 u125 u126 u127 u128 u129 u130 u131 u132 u133 u134 u135 u136 u137 u138 u139 u140 u141 u142 u143 u144 u145 u146 u147 u148 u149 u150 u151 u152 u153 u154 u155 u156 u157 u158 u159 u160 u161 u162 u163 u164 u165 u166 u167 u168 u169 u170 u171 u172 u173 u174 u175 u176 u177 u178 u179 u180 u181 u182 u183 u184 u185 u186 u187 u188 u189 u190 u191 u192 u193 u194 u195 u196 u197 u198 u199 u200 u201 u202 u203 : Value} {pb q l0 c0 : Nat} {s0 : Option Addr} {W3 W : World} {Q : Exit → Act → World → Prop} (hnb : l0 ≤ 1048576) (HBX : Hid (∀ V, Below W3.heap.size W3 V → V.cell? ⟨pb, 0, none⟩ = some (.slice s0 l0 c0)))
    (HB3 : Hid (Below W3.heap.size W3 W)) (hq3 : W3.heap.size ≤ q) (hqW : q < W.heap.size) (HC : Hid (RC W q 0 (.slice none 0 0)))
    (hQ : ∀ (z7 z32 z33 z34 z35 z36 z37 z38 z39 z40 z41 z42 z43 z44 : Value) V v, V.ownsRow W.heap.size 65 2 v l0 (portsL l0) → Fx q W V → RC V q 0 v → (∀ i y, i ≠ 0 → RC W q i y → RC V q i y) → Q (.exit 0) { tmps := (u0 :: u1 :: .pointer (some ⟨pb, 0, none⟩) :: u3 :: u4 :: u5 :: .pointer (some ⟨q, 0, none⟩) :: z7 :: u8 :: u9 :: u10 :: u11 :: u12 :: u13 :: u14 :: u15 :: u16 :: u17 :: u18 :: u19 :: u20 :: u21 :: u22 :: u23 :: u24 :: u25 :: u26 :: u27 :: u28 :: u29 :: u30 :: u31 :: z32 :: z33 :: z34 :: z35 :: z36 :: z37 :: z38 :: z39 :: z40 :: z41 :: z42 :: z43 :: z44 :: u45 :: u46 :: u47 :: u48 :: u49 :: u50 :: u51 :: u52 :: u53 :: u54 :: u55 :: u56 :: u57 :: u58 :: u59 :: u60 :: u61 :: u62 :: u63 :: u64 :: u65 :: u66 :: u67 :: u68 :: u69 :: u70 :: u71 :: u72 :: u73 :: u74 :: u75 :: u76 :: u77 :: u78 :: u79 :: u80 :: u81 :: u82 :: u83 :: u84 :: u85 :: u86 :: u87 :: u88 :: u89 :: u90 :: u91 :: u92 :: u93 :: u94 :: u95 :: u96 :: u97 :: u98 :: u99 :: u100 :: u101 :: u102 :: u103 :: u104 :: u105 :: u106 :: u107 :: u108 :: u109 :: u110 :: u111 :: u112 :: u113 :: u114 :: u115 :: u116 :: u117 :: u118 :: u119 :: u120 :: u121 :: u122 :: u123 :: u124 :: u125 :: u126 :: u127 :: u128 :: u129 :: u130 :: u131 :: u132 :: u133 :: u134 :: u135 :: u136 :: u137 :: u138 :: u139 :: u140 :: u141 :: u142 :: u143 :: u144 :: u145 :: u146 :: u147 :: u148 :: u149 :: u150 :: u151 :: u152 :: u153 :: u154 :: u155 :: u156 :: u157 :: u158 :: u159 :: u160 :: u161 :: u162 :: u163 :: u164 :: u165 :: u166 :: u167 :: u168 :: u169 :: u170 :: u171 :: u172 :: u173 :: u174 :: u175 :: u176 :: u177 :: u178 :: u179 :: u180 :: u181 :: u182 :: u183 :: u184 :: u185 :: u186 :: u187 :: u188 :: u189 :: u190 :: u191 :: u192 :: u193 :: u194 :: u195 :: u196 :: u197 :: u198 :: u199 :: u200 :: u201 :: u202 :: u203 :: []).toArray, defers := [] } V) :
    Code.wp Tryz.prog (atB 0 (bodyOf Tryz.f6)) Q { tmps := (u0 :: u1 :: .pointer (some ⟨pb, 0, none⟩) :: u3 :: u4 :: u5 :: .pointer (some ⟨q, 0, none⟩) :: .int .i64 0 :: u8 :: u9 :: u10 :: u11 :: u12 :: u13 :: u14 :: u15 :: u16 :: u17 :: u18 :: u19 :: u20 :: u21 :: u22 :: u23 :: u24 :: u25 :: u26 :: u27 :: u28 :: u29 :: u30 :: u31 :: u32 :: u33 :: u34 :: u35 :: u36 :: u37 :: u38 :: u39 :: u40 :: u41 :: u42 :: u43 :: u44 :: u45 :: u46 :: u47 :: u48 :: u49 :: u50 :: u51 :: u52 :: u53 :: u54 :: u55 :: u56 :: u57 :: u58 :: u59 :: u60 :: u61 :: u62 :: u63 :: u64 :: u65 :: u66 :: u67 :: u68 :: u69 :: u70 :: u71 :: u72 :: u73 :: u74 :: u75 :: u76 :: u77 :: u78 :: u79 :: u80 :: u81 :: u82 :: u83 :: u84 :: u85 :: u86 :: u87 :: u88 :: u89 :: u90 :: u91 :: u92 :: u93 :: u94 :: u95 :: u96 :: u97 :: u98 :: u99 :: u100 :: u101 :: u102 :: u103 :: u104 :: u105 :: u106 :: u107 :: u108 :: u109 :: u110 :: u111 :: u112 :: u113 :: u114 :: u115 :: u116 :: u117 :: u118 :: u119 :: u120 :: u121 :: u122 :: u123 :: u124 :: u125 :: u126 :: u127 :: u128 :: u129 :: u130 :: u131 :: u132 :: u133 :: u134 :: u135 :: u136 :: u137 :: u138 :: u139 :: u140 :: u141 :: u142 :: u143 :: u144 :: u145 :: u146 :: u147 :: u148 :: u149 :: u150 :: u151 :: u152 :: u153 :: u154 :: u155 :: u156 :: u157 :: u158 :: u159 :: u160 :: u161 :: u162 :: u163 :: u164 :: u165 :: u166 :: u167 :: u168 :: u169 :: u170 :: u171 :: u172 :: u173 :: u174 :: u175 :: u176 :: u177 :: u178 :: u179 :: u180 :: u181 :: u182 :: u183 :: u184 :: u185 :: u186 :: u187 :: u188 :: u189 :: u190 :: u191 :: u192 :: u193 :: u194 :: u195 :: u196 :: u197 :: u198 :: u199 :: u200 :: u201 :: u202 :: u203 :: []).toArray, defers := [] } W := by
  have HQ := hide hQ
  clear hQ
  obtain ⟨i0, hi, hz0, hz1, hz2⟩ := info_parts info65
  have HI := hide (And.intro hi (And.intro hz0 (And.intro hz1 hz2)))
  clear hi hz0 hz1 hz2
  conv => arg 2; whnf
  go_loopw [7] (fun i wr => ∃ (k : Nat) (tv : Value), k ≤ l0 ∧ i = .int .i64 k ∧ wr.ownsRow W.heap.size 65 2 tv k (portsL k) ∧ Fx q W wr ∧ RC wr q 0 tv ∧ (∀ i y, i ≠ 0 → RC W q i y → RC wr q i y)) (fun i wr => l0 - (intOf i).toNat)
  case atStart => exact ⟨0, _, Nat.zero_le _, rfl, World.ownsRow_nil _ _ _ _, Fx.refl _ _, unhide HC, fun _ _ _ h => h⟩
  case round =>
    obtain ⟨k, tv, hk, rfl, hot, hfx, hcj, hoth⟩ := hrel
    have hb := hfx.below (unhide HB3) hq3 (unhide HB3).size
    have q0 := unhide HBX wr hb
    by_cases hlt : k < l0
    · obtain ⟨ta, tc, rfl⟩ := own_shape hot
      have cq0 := hcj.1
      have HOT := hide hot
      have HFX := hide hfx
      have HCJ := hide hcj
      have HOTH := hide hoth
      have HSZ := hide hfx.size
      have i2 : (k : Int) < (l0 : Int) := by omega
      clear hot hfx hcj hoth hb
      go_wp2_with (first
        | (at_builtin; refine wpList_append_own _ rfl _ _ 58 rfl W.heap.size 65 i0 (.agg #[.string ByteArray.empty, .int .i64 0]) 2 24 Tryz.underlying58 (unhide HI).1 (unhide HI).2.1 (unhide HI).2.2.1 (unhide HI).2.2.2 rfl (by decide) _ _ _ rfl ((unhide HOT).alloc _) ⟨wr.heap.size, 0, none⟩ 1 1 [.string ⟨#[]⟩, .int .i64 1] rfl rfl (newP _ _ _ _ rfl) oneP (by unfold maxLen; omega) (by omega) (by have := unhide HSZ; simp; omega) ?_; intro v' w2 hown' hgrow _; have hlow := ((bal (brf wr) (.cells #[.string ⟨#[]⟩, .int .i64 1] 65)).mono (unhide HSZ)).trans (below_grown (Below.refl W.heap.size (wr.alloc (.cells #[.string ⟨#[]⟩, .int .i64 1] 65))) hgrow (by have := unhide HSZ; simp; omega) (fun j hj => (World.ownsRow.lt (unhide HOT) j hj).1)); have d0 := (hlow.cell (p := ⟨q, 0, none⟩) hqW).trans (unhide HCJ).1; have f0 := (hlow.frozen (p := ⟨q, 0, none⟩) hqW).trans (unhide HCJ).2; obtain ⟨ta', tc', rfl⟩ := own_shape hown'; have HOW := hide hown'; have HLOW := hide hlow; clear hown' hgrow hlow)
        | go_in)
      have HR := hide (row_stepg (xs := portsL (k + 1)) rfl hqW (unhide HFX) (unhide HCJ) (unhide HOTH) (by rw [portsL_succ]; exact unhide HOW) (unhide HLOW) rfl)
      go_roundw
      case rel => exact ⟨k + 1, _, by omega, by go_num, unhide HR⟩
      case measure => simp [intOf]; omega
    · obtain rfl : k = l0 := by omega
      have HOT := hide hot
      have HFX := hide hfx
      have HCJ := hide hcj
      have HOTH := hide hoth
      clear hot hfx hcj hoth hb
      go_wp2_with fail
      exact unhide HQ _ _ _ _ _ _ _ _ _ _ _ _ _ _ wr tv (unhide HOT) (unhide HFX) (unhide HCJ) (unhide HOTH)
end Go.Proofs.YthbcokioijpofabGreat
namespace Go.Proofs.YthbcokioijpofabGreat
open Go Go.RowKit Gs
set_option linter.unusedVariables false
set_option linter.unusedSimpArgs false
set_option maxRecDepth 100000
set_option maxHeartbeats 16000000 in
theorem sL2 {u0 u1 u3 u4 u5 u6 u7 u10 u11 u12 u13 u14 u15 u16 u17 u18 u19 u20 u21 u22 u23 u24 u25 u26 u27 u28 u29 u30 u31 u32 u33 u34 u35 u36 u37 u38 u39 u40 u41 u42 u43 u44 u45 u46 u47 u48 u49 u50 u51 u52 u53 u54 u55 u56 u57 u58 u59 u60 u61 u62 u63 u64 u65 u66 u67 u68 u69 u70 u71 u72 u73 u74 u75 u76 u77 u78 u79 u80 u81 u82 u83 u84 u85 u86 u87 u88 u89 u90 u91 u92 u93 u94 u95 u96 u97 u98 u99 u100 u101 u102 u103 u104 u105 u106 u107 u108 u109 u110 u111 u112 u113 u114 u115 u116 u117 u118 u119 u120 u121 u122 u123 u124 u125 u126 u127 u128 u129 u130 u131 u132 u133 u134 u135 u136 u137 u138 u139 u140 u141 u142 u143 u144 u145 u146 u147 u148 u149 u150 u151 u152 u153 u154 u155 u156 u157 u158 u159 u160 u161 u162 u163 u164 u165 u166 u167 u168 u169 u170 u171 u172 u173 u174 u175 u176 u177 u178 u179 u180 u181 u182 u183 u184 u185 u186 u187 u188 u189 u190 u191 u192 u193 u194 u195 u196 u197 u198 u199 u200 u201 u202 u203 : Value} {pb l2 c2 : Nat} {s2 : Option Addr} {v0 : Value} {ls : List MapReg} {W0 W : World} {Q : Exit → Act → World → Prop} (hl2 : l2 = ls.length) (hnb : ls.length ≤ 1048576) (HBX : Hid (∀ V, Below W0.heap.size W0 V → V.cell? ⟨pb, 2, none⟩ = some (.slice s2 l2 c2))) (HLS : Hid (∀ (i : Nat) x, ls[i]? = some x → ∃ b o, s2 = some ⟨b, o, none⟩ ∧ W0.cell? ⟨b, o + i * 4 + 2, none⟩ = some (.int .i64 x.init)))
    (HO : Hid (OI W0.heap.size W v0 [])) (HB0 : Hid (Below W0.heap.size W0 W))
    (hQ : ∀ (z9 z51 z52 z53 z54 z55 z56 z57 z58 z59 z60 z61 z62 z63 z64 z65 z66 : Value) V v, OI W0.heap.size V v (ls.map (fun l : MapReg => l.init)) → Below W0.heap.size W0 V → Q (.exit 2) { tmps := (u0 :: u1 :: .pointer (some ⟨pb, 0, none⟩) :: u3 :: u4 :: u5 :: u6 :: u7 :: v :: z9 :: u10 :: u11 :: u12 :: u13 :: u14 :: u15 :: u16 :: u17 :: u18 :: u19 :: u20 :: u21 :: u22 :: u23 :: u24 :: u25 :: u26 :: u27 :: u28 :: u29 :: u30 :: u31 :: u32 :: u33 :: u34 :: u35 :: u36 :: u37 :: u38 :: u39 :: u40 :: u41 :: u42 :: u43 :: u44 :: u45 :: u46 :: u47 :: u48 :: u49 :: u50 :: z51 :: z52 :: z53 :: z54 :: z55 :: z56 :: z57 :: z58 :: z59 :: z60 :: z61 :: z62 :: z63 :: z64 :: z65 :: z66 :: u67 :: u68 :: u69 :: u70 :: u71 :: u72 :: u73 :: u74 :: u75 :: u76 :: u77 :: u78 :: u79 :: u80 :: u81 :: u82 :: u83 :: u84 :: u85 :: u86 :: u87 :: u88 :: u89 :: u90 :: u91 :: u92 :: u93 :: u94 :: u95 :: u96 :: u97 :: u98 :: u99 :: u100 :: u101 :: u102 :: u103 :: u104 :: u105 :: u106 :: u107 :: u108 :: u109 :: u110 :: u111 :: u112 :: u113 :: u114 :: u115 :: u116 :: u117 :: u118 :: u119 :: u120 :: u121 :: u122 :: u123 :: u124 :: u125 :: u126 :: u127 :: u128 :: u129 :: u130 :: u131 :: u132 :: u133 :: u134 :: u135 :: u136 :: u137 :: u138 :: u139 :: u140 :: u141 :: u142 :: u143 :: u144 :: u145 :: u146 :: u147 :: u148 :: u149 :: u150 :: u151 :: u152 :: u153 :: u154 :: u155 :: u156 :: u157 :: u158 :: u159 :: u160 :: u161 :: u162 :: u163 :: u164 :: u165 :: u166 :: u167 :: u168 :: u169 :: u170 :: u171 :: u172 :: u173 :: u174 :: u175 :: u176 :: u177 :: u178 :: u179 :: u180 :: u181 :: u182 :: u183 :: u184 :: u185 :: u186 :: u187 :: u188 :: u189 :: u190 :: u191 :: u192 :: u193 :: u194 :: u195 :: u196 :: u197 :: u198 :: u199 :: u200 :: u201 :: u202 :: u203 :: []).toArray, defers := [] } V) :
    Code.wp Tryz.prog (atB 2 (bodyOf Tryz.f6)) Q { tmps := (u0 :: u1 :: .pointer (some ⟨pb, 0, none⟩) :: u3 :: u4 :: u5 :: u6 :: u7 :: v0 :: .int .i64 0 :: u10 :: u11 :: u12 :: u13 :: u14 :: u15 :: u16 :: u17 :: u18 :: u19 :: u20 :: u21 :: u22 :: u23 :: u24 :: u25 :: u26 :: u27 :: u28 :: u29 :: u30 :: u31 :: u32 :: u33 :: u34 :: u35 :: u36 :: u37 :: u38 :: u39 :: u40 :: u41 :: u42 :: u43 :: u44 :: u45 :: u46 :: u47 :: u48 :: u49 :: u50 :: u51 :: u52 :: u53 :: u54 :: u55 :: u56 :: u57 :: u58 :: u59 :: u60 :: u61 :: u62 :: u63 :: u64 :: u65 :: u66 :: u67 :: u68 :: u69 :: u70 :: u71 :: u72 :: u73 :: u74 :: u75 :: u76 :: u77 :: u78 :: u79 :: u80 :: u81 :: u82 :: u83 :: u84 :: u85 :: u86 :: u87 :: u88 :: u89 :: u90 :: u91 :: u92 :: u93 :: u94 :: u95 :: u96 :: u97 :: u98 :: u99 :: u100 :: u101 :: u102 :: u103 :: u104 :: u105 :: u106 :: u107 :: u108 :: u109 :: u110 :: u111 :: u112 :: u113 :: u114 :: u115 :: u116 :: u117 :: u118 :: u119 :: u120 :: u121 :: u122 :: u123 :: u124 :: u125 :: u126 :: u127 :: u128 :: u129 :: u130 :: u131 :: u132 :: u133 :: u134 :: u135 :: u136 :: u137 :: u138 :: u139 :: u140 :: u141 :: u142 :: u143 :: u144 :: u145 :: u146 :: u147 :: u148 :: u149 :: u150 :: u151 :: u152 :: u153 :: u154 :: u155 :: u156 :: u157 :: u158 :: u159 :: u160 :: u161 :: u162 :: u163 :: u164 :: u165 :: u166 :: u167 :: u168 :: u169 :: u170 :: u171 :: u172 :: u173 :: u174 :: u175 :: u176 :: u177 :: u178 :: u179 :: u180 :: u181 :: u182 :: u183 :: u184 :: u185 :: u186 :: u187 :: u188 :: u189 :: u190 :: u191 :: u192 :: u193 :: u194 :: u195 :: u196 :: u197 :: u198 :: u199 :: u200 :: u201 :: u202 :: u203 :: []).toArray, defers := [] } W := by
  subst hl2
  have HQ := hide hQ
  clear hQ
  obtain ⟨i0, hi, hz0, hz1, hz2⟩ := info_parts info3
  have HI := hide (And.intro hi (And.intro hz0 (And.intro hz1 hz2)))
  clear hi hz0 hz1 hz2
  conv => arg 2; whnf
  go_loopw [8, 9] (fun v i wr => ∃ (k : Nat), k ≤ ls.length ∧ i = .int .i64 k ∧ OI W0.heap.size wr v ((ls.take k).map (fun l : MapReg => l.init)) ∧ Below W0.heap.size W0 wr) (fun _ i wr => ls.length - (intOf i).toNat)
  case atStart => exact ⟨0, Nat.zero_le _, rfl, unhide HO, unhide HB0⟩
  case round =>
    obtain ⟨k, hk, rfl, hot, hb⟩ := hrel
    have q0 := unhide HBX wr hb
    by_cases hlt : k < ls.length
    · have hx : ls[k]? = some ls[k] := List.getElem?_eq_getElem hlt
      generalize ls[k] = x at hx
      obtain ⟨b, o, rfl, hc⟩ := unhide HLS k x hx
      have k0 := cell_later hb hc
      have HST := hide (show (ls.take (k + 1)).map (fun l : MapReg => l.init) = (ls.take k).map (fun l : MapReg => l.init) ++ [x.init] by rw [List.take_add_one, hx, List.map_append]; rfl)
      have HAL := hide (show ((ls.take k).map (fun l : MapReg => l.init)).length = k by rw [List.length_map, List.length_take]; omega)
      have HOT := hide hot
      have HB := hide hb
      have HSZ := hide hb.size
      have i2 : (k : Int) < (ls.length : Int) := by omega
      clear hot hb hc hx
      generalize (ls.take k).map (fun l : MapReg => l.init) = acc at *
      generalize x.init = y at *
      go_wp2_with (first
        | (at_builtin; refine wpList_append_own _ rfl _ _ 67 rfl W0.heap.size 3 i0 (.int .i64 0) 1 8 Tryz.underlying67 (unhide HI).1 (unhide HI).2.1 (unhide HI).2.2.1 (unhide HI).2.2.2 rfl (by decide) _ _ _ rfl ((unhide HOT).alloc _) ⟨wr.heap.size, 0, none⟩ 1 1 [.int .i64 y] rfl rfl (newI _ _ _ (by simp)) (oneI _) (by have := unhide HAL; unfold maxLen; omega) (by have := unhide HAL; omega) (by have := unhide HSZ; simp; omega) ?_; intro v' w2 hown' hgrow _)
        | go_in)
      have HR1 := hide (OI.step hown')
      have HR2 := hide (below_grown (bal (unhide HB) (.cells #[.int .i64 y] 3)) hgrow (by have := unhide HSZ; simp; omega) (unhide HOT).row)
      clear hown' hgrow
      go_roundw
      case rel => exact ⟨k + 1, by omega, by go_num, by rw [unhide HST]; exact unhide HR1, unhide HR2⟩
      case measure => simp [intOf]; omega
    · obtain rfl : k = ls.length := by omega
      rw [List.take_of_length_le (Nat.le_refl _)] at hot
      have HOT := hide hot
      have HB := hide hb
      clear hot hb
      go_wp2_with fail
      exact unhide HQ _ _ _ _ _ _ _ _ _ _ _ _ _ _ _ _ _ wr u8 (unhide HOT) (unhide HB)
end Go.Proofs.YthbcokioijpofabGreat
