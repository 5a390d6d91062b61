/- The ends of a source: the second loop of l16Ends, and l16Ends. -/
import Derived.Test.YtlldfaniddbjaaaGreatDoorGRS8
import Derived.Test.YtlldfaniddbjaaaGreatDoorGRP
namespace Go.Proofs.YtlldfaniddbjaaaGreatDoor
open Go Go.RowKit Gs
set_option linter.unusedVariables false
set_option linter.unusedSimpArgs false
set_option maxRecDepth 100000
set_option maxHeartbeats 16000000
theorem enL2 {u0 u1 u2 u3 u4 u6 u7 u8 u10 u12 u13 u15 u16 u17 u18 u19 u20 u21 u22 u23 u24 u25 u26 u27 u28 u29 u30 u31 u32 u33 u34 u35 u36 u37 u38 u39 u40 u41 u42 u43 u44 u45 u46 u47 u48 u49 u50 u51 u52 u53 u54 u55 u56 u57 u58 u59 u60 u61 u62 u63 u64 u65 u66 u67 u68 : Value} {W H T P g ll lc : Nat} {la : Option Addr} {v0 : Value} {ls acc0 : List (Int × Int)} {X V0 : World} {Q : Exit → Act → World → Prop} (hH : H ≤ 8) (hls : ls.length ≤ 1048576) (hacc : acc0.length ≤ 64)
    (HCC : Hid (∀ V, Below X.heap.size X V → V.cell? ⟨g + 1, 0, none⟩ = some (.int .i64 (W : Int)) ∧ V.cell? ⟨g + 1, 1, none⟩ = some (.int .i64 (H : Int)) ∧ V.cell? ⟨g + 1, 2, none⟩ = some (.int .i64 (T : Int)) ∧ V.cell? ⟨g + 1, 3, none⟩ = some (.int .i64 (P : Int)))) (HLS : Hid (∀ V, Below X.heap.size X V → RS 2 RSpot V 0 ls (.slice la ll lc)))
    (HO : Hid (OW 57 2 spC X.heap.size V0 v0 acc0)) (HB0 : Hid (Below X.heap.size X V0))
    (hQ : ∀ (zi z15 z51 z52 z53 z54 z55 z56 z57 z58 z59 z60 z61 z62 z63 z64 z65 z66 z67 : Value) V v, OW 57 2 spC X.heap.size V v (acc0 ++ rwE W ls H) → Below X.heap.size X V → Q (.exit 2) { tmps := (u0 :: u1 :: u2 :: u3 :: u4 :: .pointer (some ⟨g + 1, 0, none⟩) :: u6 :: u7 :: u8 :: .slice la ll lc :: u10 :: v :: u12 :: u13 :: zi :: z15 :: u16 :: u17 :: u18 :: u19 :: u20 :: u21 :: u22 :: u23 :: u24 :: u25 :: u26 :: u27 :: u28 :: u29 :: u30 :: u31 :: u32 :: u33 :: u34 :: u35 :: u36 :: u37 :: u38 :: u39 :: u40 :: u41 :: u42 :: u43 :: u44 :: u45 :: u46 :: u47 :: u48 :: u49 :: u50 :: z51 :: z52 :: z53 :: z54 :: z55 :: z56 :: z57 :: z58 :: z59 :: z60 :: z61 :: z62 :: z63 :: z64 :: z65 :: z66 :: z67 :: u68 :: []).toArray, defers := [] } V) :
    Code.wp Tryz.prog (atB 2 (bodyOf Tryz.f26)) Q { tmps := (u0 :: u1 :: u2 :: u3 :: u4 :: .pointer (some ⟨g + 1, 0, none⟩) :: u6 :: u7 :: u8 :: .slice la ll lc :: u10 :: v0 :: u12 :: u13 :: .int .i64 0 :: u15 :: u16 :: u17 :: u18 :: u19 :: u20 :: u21 :: u22 :: u23 :: u24 :: u25 :: u26 :: u27 :: u28 :: u29 :: u30 :: u31 :: u32 :: u33 :: u34 :: u35 :: u36 :: u37 :: u38 :: u39 :: u40 :: u41 :: u42 :: u43 :: u44 :: u45 :: u46 :: u47 :: u48 :: u49 :: u50 :: u51 :: u52 :: u53 :: u54 :: u55 :: u56 :: u57 :: u58 :: u59 :: u60 :: u61 :: u62 :: u63 :: u64 :: u65 :: u66 :: u67 :: u68 :: []).toArray, defers := [] } V0 := by
  have HQ0 := hide hQ
  have HLL := hide hls
  have HAC0 := hide hacc
  clear hQ hls hacc
  conv => arg 2; whnf
  go_loopw [11, 14] (fun v i wr => ∃ k : Nat, k ≤ H ∧ i = .int .i64 k ∧ OW 57 2 spC X.heap.size wr v (acc0 ++ rwE W ls k) ∧ Below X.heap.size X wr) (fun _ i wr => H - (intOf i).toNat)
  case atStart => exact ⟨0, Nat.zero_le _, rfl, by rw [rwE, List.append_nil]; exact unhide HO, unhide HB0⟩
  case round =>
    obtain ⟨k, hk, rfl, hot, hb⟩ := hrel
    obtain ⟨q0, q1, q2, q3⟩ := unhide HCC wr hb
    have HB := hide hb
    have HSZ := hide hb.size
    by_cases hlt : k < H
    · have HAL := hide (show (acc0 ++ rwE W ls k).length ≤ 128 by have := unhide HAC0; have := rwE_len W ls k; rw [List.length_append]; omega)
      obtain ⟨va, vc, hvs, hvc⟩ := hot.slice
      obtain ⟨vl, hvl⟩ : ∃ vl, (acc0 ++ rwE W ls k).length = vl := ⟨_, rfl⟩
      rw [hvl] at hvs
      subst hvs
      have HOT := hide hot
      have HSE : Hid (rwE W ls (k + 1) = rwE W ls k ++ (if hasP ls ((W : Int), (k : Int)) = true then [((W : Int), (k : Int))] else [])) := hide rfl
      have i2 : (k : Int) < (H : Int) := by omega
      clear hot hb hvl hvc
      obtain ⟨acc, hacc⟩ : ∃ acc, acc0 ++ rwE W ls k = acc := ⟨_, rfl⟩
      have HACC := hide hacc
      rw [hacc] at HOT HAL
      clear hacc
      obtain ⟨hb, hhb⟩ : ∃ b, hasP ls ((W : Int), (k : Int)) = b := ⟨_, rfl⟩
      have HCH := hide (fun V hV => sHas ls ((W : Int), (k : Int)) (.slice la ll lc) V (unhide HLL) hV)
      rw [hhb] at HCH HSE
      clear hhb
      go_wp2_with fail
      refine (unhide HCH (wr.alloc (.cells #[.int .i64 (W : Int), .int .i64 (k : Int)] 57)) (unhide HLS _ (bal (unhide HB) _))).mono ?_
      rintro ev w2 ⟨rfl, hb2⟩
      have HB2 := hide (btr (bal (unhide HB) _) hb2)
      have HOT2 := hide (((unhide HOT).later (bal (brf wr) (.cells #[.int .i64 (W : Int), .int .i64 (k : Int)] 57))).later hb2)
      have HSZ2 := hide (unhide HB2).size
      obtain ⟨n0, n1⟩ : w2.cell? ⟨wr.heap.size, 0, none⟩ = some (.int .i64 (W : Int)) ∧ w2.cell? ⟨wr.heap.size, 1, none⟩ = some (.int .i64 (k : Int)) := ⟨(new_cell hb2 rfl).1, (new_cell hb2 rfl).1⟩
      clear hb2 HCH
      cases hb
      · have HST : Hid (rwE W ls (k + 1) = rwE W ls k) := hide (by rw [unhide HSE, if_neg (fun h => by cases h), List.append_nil])
        clear HSE
        go_wp2_with fail
        go_roundw
        case rel => exact ⟨k + 1, by omega, by go_num, by rw [unhide HST, unhide HACC]; exact unhide HOT2, unhide HB2⟩
        case measure => simp [intOf]; omega
      · have HST : Hid (rwE W ls (k + 1) = rwE W ls k ++ [((W : Int), (k : Int))]) := hide (by rw [unhide HSE, if_pos rfl])
        clear HSE
        go_wp2_with (first
          | (at_builtin; refine wpAppOne spZ Tryz.underlying68 info57 rfl (by decide) (by decide) spC_len spC_one rfl _ _ rfl X.heap.size (.slice va vl vc) acc ((W : Int), (k : Int)) w2.heap.size rfl ((unhide HOT2).later (bal (brf _) _)) rfl (new_at w2 (spC ((W : Int), (k : Int))) 57) (by have := unhide HAL; omega) (by have := unhide HSZ2; simp; omega) ?_; intro v' w3 hown' hgrow)
          | go_in)
        have HR3 := hide hown'
        have HB3 := hide (below_grown (bal (unhide HB2) (.cells #[.int .i64 (W : Int), .int .i64 (k : Int)] 57)) hgrow (by have := unhide HSZ2; simp; omega) (unhide HOT2).row)
        clear hown' hgrow
        go_roundw
        case rel => exact ⟨k + 1, by omega, by go_num, by rw [unhide HST, ← List.append_assoc, unhide HACC]; exact unhide HR3, unhide HB3⟩
        case measure => simp [intOf]; omega
    · obtain rfl : k = H := by omega
      have HOT := hide hot
      clear hot hb
      go_wp2_with fail
      exact unhide HQ0 _ _ _ _ _ _ _ _ _ _ _ _ _ _ _ _ _ _ _ wr u11 (unhide HOT) (unhide HB)
end Go.Proofs.YtlldfaniddbjaaaGreatDoor
namespace Go.Proofs.YtlldfaniddbjaaaGreatDoor
open Go Go.RowKit Gs
set_option linter.unusedVariables false
set_option linter.unusedSimpArgs false
set_option maxRecDepth 100000
/-- The ends of a source, as the specification tells them. -/
def endsS (x : Packed) (W H : Nat) (ts : List Int) (s : Nat) : List (Int × Int) := tlE W (fromP x.ins.length W H ts s) (readersL x W H ts (s : Int)) (W * H) ++ rwE W (readersL x W H ts (s : Int)) H
theorem readersL_len {x : Packed} {W H T : Nat} {ts : List Int} (hx : StOK x W H T ts) (s : Int) : (readersL x W H ts s).length ≤ 128 := by
  have h1 := rdB_len W s x.blocks ts x.blocks.length
  have h2 := rdE_len W H s (x.outs ++ x.checks) (x.outs.length + x.checks.length)
  have h3 := hx.nb
  have h4 := hx.nt
  have h5 := hx.ne
  unfold readersL
  rw [List.length_append]; omega
theorem OW.low {α : Type} {t k B B' : Nat} {f : α → List Value} {v : Value} {xs : List α} {W : World} (hB : B ≤ B') (h : OW t k f B' W v xs) : OW t k f B W v xs := by
  obtain ⟨h1, h2⟩ := h
  refine ⟨h1, h2.imp id ?_⟩
  rintro ⟨g, cap, cur, hv, hg, rest⟩
  exact ⟨g, cap, cur, hv, Nat.le_trans hB hg, rest⟩
theorem OW.spots {t B : Nat} {v : Value} {xs : List (Int × Int)} {W : World} (h : OW t 2 spC B W v xs) (hl : xs.length ≤ 1048576) : RS 2 RSpot W 0 xs v :=
  (h.read spC_len (fun _ _ => rfl) (by unfold maxLen; omega)).low RSpot.lowers (Nat.zero_le _)
set_option maxHeartbeats 16000000 in
theorem sEnds (x : Packed) (s0 s1 s2 s3 s4 sT : Option Addr) (c0 c1 c2 c3 c4 l1 W H T P ct s : Nat) (ts : List Int) (w : World) (hx : StOK x W H T ts) (hs : s < x.ins.length + x.blocks.length)
    (h2 : RS 6 RBlock w 0 x.blocks (.slice s2 x.blocks.length c2)) (h3 : RS 2 RPort w 0 x.outs (.slice s3 x.outs.length c3)) (h4 : RS 2 RPort w 0 x.checks (.slice s4 x.checks.length c4)) (ht : RS 1 RInt w 0 ts (.slice sT ts.length ct)) :
    Calls Tryz.prog 26 #[.agg #[.slice s0 x.ins.length c0, .slice s1 l1 c1, .slice s2 x.blocks.length c2, .slice s3 x.outs.length c3, .slice s4 x.checks.length c4], .agg #[.int .i64 (W : Int), .int .i64 (H : Int), .int .i64 (T : Int), .int .i64 (P : Int)], .slice sT ts.length ct, .int .i64 (s : Int)] w fun e w' => (∃ v, e = .returned v ∧ OW 57 2 spC w.heap.size w' v (endsS x W H ts s)) ∧ Below w.heap.size w w' := by
  have hne := hx.ne
  have hnb := hx.nb
  have hnt := hx.nt
  have hni := hx.ni
  have HRD := hide (fun V hb => sReaders x s0 s1 s2 s3 s4 sT c0 c1 c2 c3 c4 x.ins.length l1 W H T P ct s ts V hx (by omega) (h2.later RBlock.keeps hb) (h3.later RPort.keeps hb) (h4.later RPort.keeps hb) (ht.later RInt.keeps hb))
  have HFR := hide (fun V hb => sFrom s0 s1 s2 s3 s4 x.ins.length l1 x.blocks.length x.outs.length x.checks.length c0 c1 c2 c3 c4 W H T P ts (.slice sT ts.length ct) s V hx.w8 hx.w1 hx.h1 hx.h8 (by omega) (by omega) hnt (ht.later RInt.keeps hb) hx.t64)
  have HX := hide hx
  have HLEN := hide (readersL_len hx (s : Int))
  obtain ⟨M, hM⟩ : ∃ M, W * H = M := ⟨_, rfl⟩
  have hM2 : M ≤ 64 := by rw [← hM]; exact Nat.mul_le_mul hx.w8 hx.h8
  have hMI : (W : Int) * (H : Int) = (M : Int) := by rw [← hM]; simp
  have HES : Hid (endsS x W H ts s = tlE W (fromP x.ins.length W H ts s) (readersL x W H ts (s : Int)) M ++ rwE W (readersL x W H ts (s : Int)) H) := hide (by unfold endsS; rw [hM])
  generalize endsS x W H ts s = ES at *
  generalize readersL x W H ts (s : Int) = LS at *
  obtain ⟨⟨o1, o2⟩, ho⟩ : ∃ p, fromP x.ins.length W H ts s = p := ⟨_, rfl⟩
  rw [ho] at HFR HES
  generalize x.ins.length = n0 at *
  generalize x.blocks.length = n2 at *
  generalize x.outs.length = n3 at *
  generalize x.checks.length = n4 at *
  obtain ⟨N, hN⟩ : ∃ n, ts.length = n := ⟨_, rfl⟩
  rw [hN] at HRD HFR hnt ⊢
  clear h2 h3 h4 ht hM hx ho hN hs hnb hni hne hnt
  obtain ⟨X, hX⟩ : ∃ X, X = (w.alloc (.cells #[.slice s0 n0 c0, .slice s1 l1 c1, .slice s2 n2 c2, .slice s3 n3 c3, .slice s4 n4 c4] 37)).alloc (.cells #[.int .i64 (W : Int), .int .i64 (H : Int), .int .i64 (T : Int), .int .i64 (P : Int)] 39) := ⟨_, rfl⟩
  have HXB : Hid (Below w.heap.size w X) := hide (by rw [hX]; exact bal (bal (brf w) _) _)
  have HCP : Hid (∀ V, Below X.heap.size X V → V.cell? ⟨w.heap.size, 0, none⟩ = some (.slice s0 n0 c0) ∧ V.cell? ⟨w.heap.size, 1, none⟩ = some (.slice s1 l1 c1) ∧ V.cell? ⟨w.heap.size, 2, none⟩ = some (.slice s2 n2 c2) ∧ V.cell? ⟨w.heap.size, 3, none⟩ = some (.slice s3 n3 c3) ∧ V.cell? ⟨w.heap.size, 4, none⟩ = some (.slice s4 n4 c4)) := hide (fun V hV => by
    rw [hX] at hV
    have K := fun (i : Nat) y hy => (new_cell (i := i) (x := y) (btr (bal (brf _) _) hV) hy).1
    exact ⟨K 0 _ rfl, K 1 _ rfl, K 2 _ rfl, K 3 _ rfl, K 4 _ rfl⟩)
  have HCC : Hid (∀ V, Below X.heap.size X V → V.cell? ⟨w.heap.size + 1, 0, none⟩ = some (.int .i64 (W : Int)) ∧ V.cell? ⟨w.heap.size + 1, 1, none⟩ = some (.int .i64 (H : Int)) ∧ V.cell? ⟨w.heap.size + 1, 2, none⟩ = some (.int .i64 (T : Int)) ∧ V.cell? ⟨w.heap.size + 1, 3, none⟩ = some (.int .i64 (P : Int))) := hide (fun V hV => by
    rw [hX] at hV
    have K := fun (i : Nat) y hy => (new_cell (i := i) (x := y) hV hy).1
    simp only [World.size_alloc] at K
    exact ⟨K 0 _ rfl, K 1 _ rfl, K 2 _ rfl, K 3 _ rfl⟩)
  have HXX := hide hX
  clear hX
  go_enter Tryz.func26, Tryz.ntmps26
  go_wp2_with fail
  rw [← unhide HXX]
  refine (unhide HRD X (unhide HXB)).mono ?_
  rintro e w1 ⟨⟨v1, rfl, ho1⟩, hb1⟩
  have HB1 := hide hb1
  have HO1 := hide ho1
  obtain ⟨p0, p1, p2, p3, p4⟩ := unhide HCP w1 hb1
  obtain ⟨q0, q1, q2, q3⟩ := unhide HCC w1 hb1
  clear hb1 ho1 HRD
  go_wp2_with fail
  refine (unhide HFR w1 (btr (unhide HXB) (unhide HB1))).mono ?_
  rintro e w2 ⟨rfl, hb2⟩
  have HB2 := hide (btr (unhide HB1) hb2)
  have HO2 := hide ((unhide HO1).later hb2)
  clear hb2 HFR p0 p1 p2 p3 p4 q0 q1 q2 q3
  go_wp2_with fail
  obtain ⟨la, lc, hls, hlc⟩ := (unhide HO2).slice
  obtain ⟨ll, hll⟩ : ∃ n, LS.length = n := ⟨_, rfl⟩
  rw [hll] at hls
  subst hls
  obtain ⟨Y, hY⟩ : ∃ Y, Y = w2.alloc (.cells #[.int .i64 o1, .int .i64 o2] 57) := ⟨_, rfl⟩
  have HXY := hide (show Below X.heap.size X Y by rw [hY]; exact bal (unhide HB2) _)
  have HOW : Hid (∀ V, Below Y.heap.size Y V → V.cell? ⟨w2.heap.size, 0, none⟩ = some (.int .i64 o1) ∧ V.cell? ⟨w2.heap.size, 1, none⟩ = some (.int .i64 o2)) := hide (fun V hV => by
    rw [hY] at hV
    exact ⟨(new_cell hV rfl).1, (new_cell hV rfl).1⟩)
  have HLS : Hid (∀ V, Below Y.heap.size Y V → RS 2 RSpot V 0 LS (.slice la ll lc)) := hide (fun V hV => by
    rw [hY] at hV
    exact ((unhide HO2).later (btr (bal (brf w2) _) hV)).spots (by have := unhide HLEN; omega))
  have HST := hide (ow_start (t := 57) (k := 2) (f := spC) Y)
  have HSY : Hid (Y.heap.size = w2.heap.size + 1) := hide (by rw [hY]; simp)
  have HYY := hide hY
  clear hY hll hlc
  rw [← unhide HYY, ← unhide HSY]
  refine enL1 (ls := LS) (o1 := o1) (o2 := o2) (X := Y) (W := W) (H := H) (T := T) (P := P) (unhide HX).w8 (unhide HX).w1 hMI hM2 (by have := unhide HLEN; omega) (hide (fun V hV => unhide HCC V (btr (unhide HXY) hV))) HLS HOW HST (hide (bal (brf Y) _)) ?_
  intro zi z13 z27 z28 z29 z30 z31 z32 z33 z34 z35 z36 z37 z38 z39 z40 z41 z42 z43 z44 z45 z46 z47 z48 z49 z50 V1 v1 ho1 hb1
  have HO3 := hide ho1
  have HB3 := hide hb1
  have HL1 := hide (Nat.le_trans (tlE_len W (o1, o2) LS M) hM2)
  clear ho1 hb1
  go_wp2_with fail
  refine enL2 (ls := LS) (X := Y) (W := W) (H := H) (T := T) (P := P) (unhide HX).h8 (by have := unhide HLEN; omega) (unhide HL1) (hide (fun V hV => unhide HCC V (btr (unhide HXY) hV))) HLS HO3 HB3 ?_
  intro zj y15 y51 y52 y53 y54 y55 y56 y57 y58 y59 y60 y61 y62 y63 y64 y65 y66 y67 V2 v2 ho2 hb2
  have HO4 := hide ho2
  have HB4 := hide (btr (unhide HXB) (btr (unhide HXY) hb2))
  have HSZ := hide (Nat.le_trans (unhide HXB).size (unhide HXY).size)
  clear ho2 hb2
  go_wp2_with fail
  exact bodyPost_ret (v := v2) (by simp [results, Tryz.results26, go_sem]) rfl ⟨⟨_, rfl, by rw [unhide HES]; exact (unhide HO4).low (unhide HSZ)⟩, unhide HB4⟩
end Go.Proofs.YtlldfaniddbjaaaGreatDoor
namespace Go.Proofs.YtlldfaniddbjaaaGreatDoor
open Go Go.RowKit Gs
set_option linter.unusedVariables false
set_option linter.unusedSimpArgs false
set_option maxRecDepth 100000
structure Fx (g : Nat) (W W' : World) : Prop where
  os : W'.os = W.os
  tape : W'.tape = W.tape
  output : W'.output = W.output
  size : W.heap.size ≤ W'.heap.size
  block : ∀ k, k < W.heap.size → k ≠ g → W'.heap[k]? = W.heap[k]?
theorem Fx.refl (g : Nat) (W : World) : Fx g W W := ⟨rfl, rfl, rfl, Nat.le_refl _, fun _ _ _ => rfl⟩
theorem Fx.trans {g : Nat} {a b c : World} (h : Fx g a b) (k : Fx g b c) : Fx g a c :=
  ⟨k.os.trans h.os, k.tape.trans h.tape, k.output.trans h.output, Nat.le_trans h.size k.size, fun i hi hn => (k.block i (Nat.lt_of_lt_of_le hi h.size) hn).trans (h.block i hi hn)⟩
theorem Fx.of {g : Nat} {W W' : World} (h : Below W.heap.size W W') : Fx g W W' := ⟨h.os, h.tape, h.output, h.size, fun k hk _ => h.block k hk⟩
theorem Fx.below {g B : Nat} {w W W' : World} (h : Below B w W) (k : Fx g W W') (hg : B ≤ g) (hB : B ≤ W.heap.size) : Below B w W' :=
  ⟨k.os.trans h.os, k.tape.trans h.tape, k.output.trans h.output, Nat.le_trans h.size k.size, fun i hi => (k.block i (by omega) (by omega)).trans (h.block i hi)⟩
theorem Fx.set (g i : Nat) (W : World) (v : Value) : Fx g W (W.setCell ⟨g, i, none⟩ v) := by
  have h : Below g W (W.setCell ⟨g, i, none⟩ v) := (Below.refl g W).setCell (Nat.le_refl g) v
  exact ⟨h.os, h.tape, h.output, h.size, fun k hk hn => by
    exact Below.heap_setCell W ⟨g, i, none⟩ v k hn⟩
theorem heap_cell {W W' : World} {b o : Nat} (h : W'.heap[b]? = W.heap[b]?) : W'.cell? ⟨b, o, none⟩ = W.cell? ⟨b, o, none⟩ ∧ W'.frozen? ⟨b, o, none⟩ = W.frozen? ⟨b, o, none⟩ := by
  unfold World.cell? World.frozen?
  simp [h]
theorem Fx.cell {g : Nat} {W W' : World} (h : Fx g W W') {b o : Nat} {v : Value} (hc : W.cell? ⟨b, o, none⟩ = some v) (hb : b ≠ g) : W'.cell? ⟨b, o, none⟩ = some v :=
  (heap_cell (h.block b (World.block_lt_of_cell? _ _ hc) hb)).1.trans hc
def sameW (a b : Hop) : Bool := decide (a.x = b.x) && (decide (a.y = b.y) && (decide (a.d = b.d) && decide (a.t = b.t)))
theorem sameW_iff {a b : Hop} : sameW a b = true ↔ a.x = b.x ∧ a.y = b.y ∧ a.d = b.d ∧ a.t = b.t := by
  unfold sameW; simp
/-- Whether a wire is among some. -/
def seenB (seen : List Hop) (h : Hop) : Bool := seen.any fun y => sameW y h
def thH (W H T : Nat) (h : Hop) : Bool := thereB W H T h.x h.y h.d h.t
def numH (W T : Nat) (h : Hop) : Int := numW W T h.x h.y h.d h.t
/-- Whether a wire with that number is among some. -/
def uB (W T : Nat) (seen : List Hop) (n : Int) : Bool := seen.any fun y => decide (numH W T y = n)
theorem uB_seen {W H T : Nat} {seen : List Hop} {h : Hop} (hs : ∀ y ∈ seen, thH W H T y = true) (hh : thH W H T h = true) : uB W T seen (numH W T h) = seenB seen h := by
  unfold uB seenB
  induction seen with
  | nil => rfl
  | cons y r ih =>
    rw [List.any_cons, List.any_cons, ih (fun z hz => hs z (List.mem_cons_of_mem _ hz))]
    congr 1
    rw [Bool.eq_iff_iff, decide_eq_true_eq, sameW_iff]
    constructor
    · intro e
      exact numW_inj (hs y (List.mem_cons_self)) hh e
    · rintro ⟨h1, h2, h3, h4⟩
      unfold numH; rw [h1, h2, h3, h4]
theorem uB_snoc (W T : Nat) (seen : List Hop) (h : Hop) (n : Int) : uB W T (seen ++ [h]) n = (uB W T seen n || decide (numH W T h = n)) := by
  unfold uB; rw [List.any_append]; simp
/-- A row of yes and no: which numbers are taken. -/
def BR (W T : Nat) (V : World) (ub N : Nat) (seen : List Hop) : Prop := ∀ n : Nat, n < N → V.cell? ⟨ub, n, none⟩ = some (.bool (uB W T seen (n : Int))) ∧ V.frozen? ⟨ub, n, none⟩ = false
theorem BR.later {W T ub N : Nat} {V V' : World} {seen : List Hop} (h : BR W T V ub N seen) (hb : Below V.heap.size V V') : BR W T V' ub N seen := fun n hn =>
  ⟨cell_later hb (h n hn).1, frozen_later hb (h n hn).1 (h n hn).2⟩
theorem BR.put {W T ub N m : Nat} {V : World} {seen : List Hop} {y : Hop} (h : BR W T V ub N seen) (hm : m < N) (e : numH W T y = (m : Int)) : BR W T (V.setCell ⟨ub, m, none⟩ (.bool true)) ub N (seen ++ [y]) := by
  intro n hn
  obtain ⟨h1, h2⟩ := h n hn
  have hf := setK_frozen [.bool true] V ub m ⟨ub, n, none⟩
  refine ⟨?_, hf.trans h2⟩
  rw [uB_snoc, e]
  by_cases hnm : n = m
  · subst hnm
    rw [decide_eq_true rfl, Bool.or_true]
    exact World.cell?_setCell_same (w := V) (a := ⟨ub, n, none⟩) (v := .bool true) h1
  · rw [decide_eq_false (by omega), Bool.or_false, World.cell?_setCell_other (w := V) (a := ⟨ub, m, none⟩) (b := ⟨ub, n, none⟩) (v := .bool true) (ne_addr (.inr hnm))]
    exact h1
/-- Whether a wire comes from its source, or goes on from the one that it names. -/
def fromB (own : Int × Int) (net : List Hop) (h : Hop) : Bool := if h.f < 0 then decide (h.x = own.1) && decide (h.y = own.2) else match net[h.f.toNat]? with | some a => decide (endX a.x a.d = h.x) && (decide (endY a.y a.d = h.y) && decide (a.t = h.t)) | none => false
/-- Whether a net's wire is right, those ahead of it being so. -/
def hopB (W H T : Nat) (own : Int × Int) (seen net : List Hop) (i : Nat) : Bool := match net[i]? with | none => false | some h => thH W H T h && (decide (-1 ≤ h.f) && (decide (h.f < (i : Int)) && (!seenB (seen ++ net.take i) h && fromB own net h)))
theorem hopB_at {W H T : Nat} {own : Int × Int} {seen net : List Hop} {i : Nat} {h : Hop} (hi : net[i]? = some h) : hopB W H T own seen net i = (thH W H T h && (decide (-1 ≤ h.f) && (decide (h.f < (i : Int)) && (!seenB (seen ++ net.take i) h && fromB own net h)))) := by
  unfold hopB; rw [hi]
theorem hopB_there {W H T : Nat} {own : Int × Int} {seen net : List Hop} {i k : Nat} {h : Hop} (hu : upB (hopB W H T own seen net) k = true) (hi : i < k) (h1 : net[i]? = some h) : thH W H T h = true := by
  have := upB_at hu hi
  rw [hopB_at h1, Bool.and_eq_true] at this
  exact this.1
theorem there_take {W H T : Nat} {own : Int × Int} {seen net : List Hop} {k : Nat} (hs : ∀ y ∈ seen, thH W H T y = true) (hu : upB (hopB W H T own seen net) k = true) : ∀ y ∈ seen ++ net.take k, thH W H T y = true := by
  intro y hy
  rcases List.mem_append.1 hy with h | h
  · exact hs y h
  · obtain ⟨i, hi⟩ := List.mem_iff_getElem?.1 h
    rw [List.getElem?_take] at hi
    split at hi
    · rename_i hlt
      exact hopB_there hu hlt hi
    · cases hi
theorem smH_of {W H T : Nat} {h : Hop} (hW : W ≤ 8) (hH : H ≤ 8) (ht : thH W H T h = true) : SmH h := by
  obtain ⟨hy, _, hx, _⟩ := there_parts ht
  exact ⟨by omega, by omega⟩
/-- Whether a net is right, those ahead of it being so. -/
def netB (x : Packed) (W H T : Nat) (ts : List Int) (nets : List (List Hop)) (s : Nat) : Bool := match nets[s]? with | none => false | some net => upB (hopB W H T (fromP x.ins.length W H ts s) (nets.take s).flatten net) net.length && (readersL x W H ts (s : Int)).all fun r => decide (r = fromP x.ins.length W H ts s) || reachedB net r
def netsB (x : Packed) (W H T : Nat) (ts : List Int) (nets : List (List Hop)) : Bool := upB (netB x W H T ts nets) nets.length
theorem tlE_mem {W : Nat} {own : Int × Int} {ls : List (Int × Int)} {r : Int × Int} : ∀ {M : Nat}, r ∈ tlE W own ls M ↔ ∃ k : Nat, k < M ∧ r = tileP W (k : Int) ∧ r ≠ own ∧ r ∈ ls
  | 0 => by simp [tlE]
  | M + 1 => by
    rw [tlE, List.mem_append, tlE_mem]
    constructor
    · rintro (⟨k, h1, h2⟩ | h)
      · exact ⟨k, by omega, h2⟩
      · split at h
        · rename_i hh
          simp at h
          subst h
          exact ⟨M, by omega, rfl, hh.1, hasP_mem.1 hh.2⟩
        · simp at h
    · rintro ⟨k, h1, h2, h3, h4⟩
      by_cases e : k = M
      · subst e
        subst h2
        right
        rw [if_pos ⟨h3, hasP_mem.2 h4⟩]; simp
      · exact .inl ⟨k, by omega, h2, h3, h4⟩
theorem rwE_mem {W : Nat} {ls : List (Int × Int)} {r : Int × Int} : ∀ {M : Nat}, r ∈ rwE W ls M ↔ ∃ k : Nat, k < M ∧ r = ((W : Int), (k : Int)) ∧ r ∈ ls
  | 0 => by simp [rwE]
  | M + 1 => by
    rw [rwE, List.mem_append, rwE_mem]
    constructor
    · rintro (⟨k, h1, h2⟩ | h)
      · exact ⟨k, by omega, h2⟩
      · split at h
        · rename_i hh
          simp at h
          subst h
          exact ⟨M, by omega, rfl, hasP_mem.1 hh⟩
        · simp at h
    · rintro ⟨k, h1, h2, h3⟩
      by_cases e : k = M
      · subst e
        subst h2
        right
        rw [if_pos (hasP_mem.2 h3)]; simp
      · exact .inl ⟨k, by omega, h2, h3⟩
theorem rdB_mem {W : Nat} {s : Int} {bs : List Block} {ts : List Int} {r : Int × Int} : ∀ {M : Nat}, r ∈ rdB W s bs ts M ↔ ∃ k b, k < M ∧ bs[k]? = some b ∧ hasB b.inp s = true ∧ r = tileP W (ts.getD k 0)
  | 0 => by simp [rdB]
  | M + 1 => by
    rw [rdB, List.mem_append, rdB_mem]
    constructor
    · rintro (⟨k, b, h1, h2⟩ | h)
      · exact ⟨k, b, by omega, h2⟩
      · split at h
        · rename_i b hb
          split at h
          · rename_i hh
            simp only [List.mem_singleton] at h
            exact ⟨M, b, by omega, hb, hh, h⟩
          · simp at h
        · simp at h
    · rintro ⟨k, b, h1, h2, h3, h4⟩
      by_cases e : k = M
      · subst e
        right
        rw [h2]
        simp only [if_pos h3, List.mem_singleton]
        exact h4
      · exact .inl ⟨k, b, by omega, h2, h3, h4⟩
theorem rdE_mem {W H : Nat} {s : Int} {es : List Port} {r : Int × Int} : ∀ {M : Nat}, r ∈ rdE W H s es M ↔ ∃ k e, k < M ∧ es[k]? = some e ∧ e.src = s ∧ r = ((W : Int), (k : Int) % (H : Int))
  | 0 => by simp [rdE]
  | M + 1 => by
    rw [rdE, List.mem_append, rdE_mem]
    constructor
    · rintro (⟨k, b, h1, h2⟩ | h)
      · exact ⟨k, b, by omega, h2⟩
      · split at h
        · rename_i b hb
          split at h
          · rename_i hh
            simp only [List.mem_singleton] at h
            exact ⟨M, b, by omega, hb, hh, h⟩
          · simp at h
        · simp at h
    · rintro ⟨k, b, h1, h2, h3, h4⟩
      by_cases e : k = M
      · subst e
        right
        rw [h2]
        simp only [if_pos h3, List.mem_singleton]
        exact h4
      · exact .inl ⟨k, b, by omega, h2, h3, h4⟩
/-- The ends of a source are the places of what reads it, but its own. -/
theorem ends_mem {x : Packed} {W H T : Nat} {ts : List Int} {s : Nat} {r : Int × Int} (hx : StOK x W H T ts) (hs : s < x.ins.length + x.blocks.length) : r ∈ endsS x W H ts s ↔ r ∈ readersL x W H ts (s : Int) ∧ r ≠ fromP x.ins.length W H ts s := by
  unfold endsS
  rw [List.mem_append, tlE_mem, rwE_mem]
  have hW := hx.w1
  have hW8 := hx.w8
  have hH := hx.h1
  have hown : fromP x.ins.length W H ts s = (-1, (s : Int) % (H : Int)) ∨ ∃ q, (0 ≤ q) ∧ fromP x.ins.length W H ts s = tileP W q := by
    unfold fromP
    split
    · exact .inl rfl
    · refine .inr ⟨_, ?_, rfl⟩
      have hlt : s - x.ins.length < ts.length := by have := hx.nb; omega
      rw [List.getD_eq_getElem?_getD, List.getElem?_eq_getElem hlt]
      exact (hx.tin _ (List.getElem_mem hlt)).1
  constructor
  · rintro (⟨k, _, _, h1, h2⟩ | ⟨k, _, h1, h2⟩)
    · exact ⟨h2, h1⟩
    · refine ⟨h2, ?_⟩
      subst h1
      rcases hown with e | ⟨q, hq, e⟩
      · rw [e]; intro h; injection h with a b; omega
      · rw [e]; intro h
        unfold tileP at h
        injection h with a b
        have := Int.emod_lt_of_pos q (show (0 : Int) < (W : Int) by omega)
        omega
  · rintro ⟨h1, h2⟩
    have h1' := h1
    unfold readersL at h1
    rcases List.mem_append.1 h1 with h | h
    · obtain ⟨k, b, hk, hb, _, rfl⟩ := rdB_mem.1 h
      left
      have hlt : k < ts.length := by rw [← hx.nb]; exact hk
      have hq := hx.tin ts[k] (List.getElem_mem hlt)
      have hg : ts.getD k 0 = ts[k] := by rw [List.getD_eq_getElem?_getD, List.getElem?_eq_getElem hlt]; rfl
      refine ⟨(ts.getD k 0).toNat, by rw [hg]; omega, ?_, h2, h1'⟩
      rw [hg, Int.toNat_of_nonneg hq.1]
    · obtain ⟨k, e, hk, he, _, rfl⟩ := rdE_mem.1 h
      right
      have a0 := Int.emod_nonneg (k : Int) (show (H : Int) ≠ 0 by omega)
      have a1 := Int.emod_lt_of_pos (k : Int) (show (0 : Int) < (H : Int) by omega)
      exact ⟨((k : Int) % (H : Int)).toNat, by omega, by rw [Int.toNat_of_nonneg a0], h1'⟩
theorem ends_all {x : Packed} {W H T : Nat} {ts : List Int} {s : Nat} (p : Int × Int → Bool) (hx : StOK x W H T ts) (hs : s < x.ins.length + x.blocks.length) : (endsS x W H ts s).all p = (readersL x W H ts (s : Int)).all fun r => decide (r = fromP x.ins.length W H ts s) || p r := by
  rw [Bool.eq_iff_iff, List.all_eq_true, List.all_eq_true]
  constructor
  · intro h r hr
    by_cases e : r = fromP x.ins.length W H ts s
    · rw [decide_eq_true e]; rfl
    · rw [h r ((ends_mem hx hs).2 ⟨hr, e⟩), Bool.or_true]
  · intro h r hr
    obtain ⟨h1, h2⟩ := (ends_mem hx hs).1 hr
    have := h r h1
    rwa [decide_eq_false h2, Bool.false_or] at this
end Go.Proofs.YtlldfaniddbjaaaGreatDoor
namespace Go.Proofs.YtlldfaniddbjaaaGreatDoor
open Go Go.RowKit Gs
set_option linter.unusedVariables false
section
variable {P : Program} {ops : Array Oper} {a0 : Act} {F F3 : Nat → World → Value → Prop} {w0 : World} {n : Nat} {E : World → Prop}
/-- Facts: some until the last operation is done, others behind it. -/
abbrev GZ (F F3 : Nat → World → Value → Prop) (n : Nat) : Array Bool → Nat → World → Value → Prop := fun l k w v => (l.getD n false = false → F k w v) ∧ (l.getD n false = true → F3 k w v)
theorem sz_val {k : Nat} {o : Oper} (hne : k ≠ n) (hn : (ops[n]?).any (fun o => onB o.after k) = true) (hg : o.guard = none) (h : ∀ l a w, PA ops (GZ F F3 n) (JE w0 n E) a0 l a w → l.getD n false = false → Below w0.heap.size w0 w → (∀ e ∈ o.after, Region.binds .any e = true → l.getD e.on false = true) → ∃ x, (execOp a.eval o).run P w = .ok (.value x) w ∧ F k w x) : Stp P ops (GZ F F3 n) (JE w0 n E) a0 k o := by
  intro l a w hp hu ha
  have hl := und hp hn (notDoneB hu)
  have hb := hp.j.1 hl
  obtain ⟨x, hr, hf⟩ := h l a w hp hl hb ha
  unfold opW
  rw [if_pos (wanted_none hg)]
  refine .inl ⟨x, w, hr, x, rfl, JE.step hne hu hl hb, ⟨fun _ => hf, fun e => ?_⟩, fun j d hd hj hG => ⟨fun _ => hG.1 hl, fun e => ?_⟩⟩
  · rw [set_oth hu (Ne.symm hne), hl] at e; cases e
  · rw [set_oth hu (Ne.symm hne), hl] at e; cases e
theorem sz_new {k : Nat} {o : Oper} (hL : Lasts F) (hne : k ≠ n) (hn : (ops[n]?).any (fun o => onB o.after k) = true) (hg : o.guard = none) (h : ∀ l a w, PA ops (GZ F F3 n) (JE w0 n E) a0 l a w → l.getD n false = false → Below w0.heap.size w0 w → (∀ e ∈ o.after, Region.binds .any e = true → l.getD e.on false = true) → ∃ x ob, (execOp a.eval o).run P w = .ok (.value x) (w.alloc ob) ∧ F k (w.alloc ob) x) : Stp P ops (GZ F F3 n) (JE w0 n E) a0 k o := by
  intro l a w hp hu ha
  have hl := und hp hn (notDoneB hu)
  have hb := hp.j.1 hl
  obtain ⟨x, ob, hr, hf⟩ := h l a w hp hl hb ha
  unfold opW
  rw [if_pos (wanted_none hg)]
  refine .inl ⟨x, _, hr, x, rfl, JE.step hne hu hl (bal hb ob), ⟨fun _ => hf, fun e => ?_⟩, fun j d hd hj hG => ⟨fun _ => hL _ _ _ _ (bal (brf w) ob) (hG.1 hl), fun e => ?_⟩⟩
  · rw [set_oth hu (Ne.symm hne), hl] at e; cases e
  · rw [set_oth hu (Ne.symm hne), hl] at e; cases e
theorem sz_call {k : Nat} {o : Oper} {f : FuncId} (hL : Lasts F) (hne : k ≠ n) (hn : (ops[n]?).any (fun o => onB o.after k) = true) (hg : o.guard = none) (h : ∀ l a w, PA ops (GZ F F3 n) (JE w0 n E) a0 l a w → l.getD n false = false → Below w0.heap.size w0 w → (∀ e ∈ o.after, Region.binds .any e = true → l.getD e.on false = true) → ∃ args, (execOp a.eval o).run P w = .ok (.enter f args) w ∧ Calls P f args w fun e w' => ∃ x, e = .returned x ∧ F k w' x ∧ Below w.heap.size w w') : Stp P ops (GZ F F3 n) (JE w0 n E) a0 k o := by
  intro l a w hp hu ha
  have hl := und hp hn (notDoneB hu)
  have hb := hp.j.1 hl
  obtain ⟨args, hr, hc⟩ := h l a w hp hl hb ha
  unfold opW
  rw [if_pos (wanted_none hg)]
  refine .inr (.inr ⟨f, args, w, hr, Calls.mono hc ?_⟩)
  rintro e w' ⟨x, rfl, hf, hb'⟩
  refine ⟨x, rfl, x, rfl, JE.step hne hu hl (btr hb hb'), ⟨fun _ => hf, fun e => ?_⟩, fun j d hd hj hG => ⟨fun _ => hL _ _ _ _ hb' (hG.1 hl), fun e => ?_⟩⟩
  · rw [set_oth hu (Ne.symm hne), hl] at e; cases e
  · rw [set_oth hu (Ne.symm hne), hl] at e; cases e
theorem sz_last {o : Oper} (hg : o.guard = none) (h : ∀ l a w, PA ops (GZ F F3 n) (JE w0 n E) a0 l a w → l.getD n false = false → Below w0.heap.size w0 w → (∀ e ∈ o.after, Region.binds .any e = true → l.getD e.on false = true) → ∃ w', (execOp a.eval o).run P w = .ok .skip w' ∧ E w' ∧ F3 n w' undef ∧ ∀ j d, (ops[j]?).bind (·.dst) = some d → F j w (a.eval (.tmp d)) → F3 j w' (a.eval (.tmp d))) : Stp P ops (GZ F F3 n) (JE w0 n E) a0 n o := by
  intro l a w hp hu ha
  have hl := notDoneB hu
  have hb := hp.j.1 hl
  obtain ⟨w', hr, hE, h3, hall⟩ := h l a w hp hl hb ha
  have e1 := set_own hu
  unfold opW
  rw [if_pos (wanted_none hg)]
  refine .inr (.inl ⟨w', hr, undef, rfl, ⟨fun e => ?_, fun _ => hE⟩, ⟨fun e => ?_, fun _ => h3⟩, fun j d hd hj hG => ⟨fun e => ?_, fun _ => hall j d hd (hG.1 hl)⟩⟩)
  · rw [e1] at e; cases e
  · rw [e1] at e; cases e
  · rw [e1] at e; cases e
end
end Go.Proofs.YtlldfaniddbjaaaGreatDoor
