/- Both answer the same; the law: and what was handed in reads as it did. -/
import Derived.Test.YtlldfaniddbjaaaGreatDoorSA
import Derived.Test.YtlldfaniddbjaaaGreatDoorDS
import Derived.Test.YtlldfaniddbjaaaGreatDoorDT
import Derived.Test.YtlldfaniddbjaaaGreatDoorDE
import Derived.Test.YtlldfaniddbjaaaGreatDoorRS6
import Derived.Test.YtlldfaniddbjaaaGreatDoorGRP
namespace Go.Proofs.YtlldfaniddbjaaaGreatDoor
open Go Go.RowKit Gs
set_option linter.unusedVariables false
set_option linter.unusedSimpArgs false
set_option maxRecDepth 100000
theorem pack_same (a : Packed) : packI a = packS a := by
  unfold packI packS nms portsB blocksB
  rw [show upB (blkSAt a.ins.length a.blocks a.clocks.length (a.ins.length + a.blocks.length)) a.blocks.length = upB (blkAt a.ins.length a.blocks a.clocks.length) a.blocks.length from by
    congr 1
    funext k
    exact blkS_eq _ _ _ _ _]
  rw [List.all_append]
  generalize countsA a = c1
  generalize upB _ a.blocks.length = c2
  generalize a.outs.all _ = c3
  generalize a.checks.all _ = c4
  generalize namesB (a.ins ++ a.clocks) = c7
  generalize namesB ((a.blocks.filter (·.reg)).map _) = c8
  generalize namesB (a.outs.map _) = c9
  generalize namesB (a.checks.map _) = c10
  cases c1 <;> cases c2 <;> cases c3 <;> cases c4 <;> cases c7 <;> cases c8 <;> cases c9 <;> cases c10 <;> rfl
theorem RPacked.later {n : Packed} {u : List Value} {w W : World} {B : Nat} (h : RPacked w B n u) (hb : Below w.heap.size w W) : RPacked W B n u := RPacked.keeps _ _ _ _ _ (later_cells hb B) h
theorem RPacked.any {n : Packed} {u : List Value} {w : World} {B : Nat} (h : RPacked w B n u) : RPacked w 0 n u := RPacked.lowers _ _ _ _ _ (Nat.zero_le _) h
/-- A world behind one that boxed 5 cells. -/
def B5 (t : TypeId) (w : World) (y0 y1 y2 y3 y4 : Value) (V : World) : Prop := Below (w.alloc (.cells #[y0, y1, y2, y3, y4] t)).heap.size (w.alloc (.cells #[y0, y1, y2, y3, y4] t)) V
theorem B5.get {t : TypeId} {w : World} {y0 y1 y2 y3 y4 : Value} {V : World} (h : B5 t w y0 y1 y2 y3 y4 V) : V.cell? ⟨w.heap.size, 0, none⟩ = some y0 ∧ V.cell? ⟨w.heap.size, 1, none⟩ = some y1 ∧ V.cell? ⟨w.heap.size, 2, none⟩ = some y2 ∧ V.cell? ⟨w.heap.size, 3, none⟩ = some y3 ∧ V.cell? ⟨w.heap.size, 4, none⟩ = some y4 :=
  ⟨cell_later h (by rw [World.cell?_alloc_new]; rfl), cell_later h (by rw [World.cell?_alloc_new]; rfl), cell_later h (by rw [World.cell?_alloc_new]; rfl), cell_later h (by rw [World.cell?_alloc_new]; rfl), cell_later h (by rw [World.cell?_alloc_new]; rfl)⟩
theorem B5.then {t : TypeId} {w : World} {y0 y1 y2 y3 y4 : Value} {V U : World} (h : B5 t w y0 y1 y2 y3 y4 V) (hb : Below V.heap.size V U) : B5 t w y0 y1 y2 y3 y4 U := btr h hb
theorem B5.below {t : TypeId} {w : World} {y0 y1 y2 y3 y4 : Value} {V : World} (h : B5 t w y0 y1 y2 y3 y4 V) : Below w.heap.size w V := btr (bal (brf w) _) h
def FL10 (v24 : Packed) (e1 e2 : Value) : Nat → World → Value → Prop
  | 0, W, v => v = e1
  | 1, W, v => v = e2
  | 2, W, v => ∃ u, v = .agg u ∧ RPacked W 0 v24 u.toList
  | 3, W, v => v = .bool true
  | 4, W, v => v = .bool false
  | _, _, _ => True
theorem FL10_lasts (v24 : Packed) (e1 e2 : Value) : Lasts (FL10 v24 e1 e2) := by
  intro k w w' v hb h
  match k, h with
  | 0, h => exact h
  | 1, h => exact h
  | 2, h => obtain ⟨u, e, hr⟩ := h; exact ⟨u, e, hr.later hb⟩
  | 3, h => exact h
  | 4, h => exact h
  | _ + 5, _ => trivial
end Go.Proofs.YtlldfaniddbjaaaGreatDoor
namespace Go.Proofs.YtlldfaniddbjaaaGreatDoor
open Go Go.RowKit Gs
set_option linter.unusedVariables false
set_option linter.unusedSimpArgs false
set_option maxRecDepth 100000
/-- What a right placement gives. -/
structure StOK (x : Packed) (W H T : Nat) (ts : List Int) : Prop where
  w1 : 1 ≤ W
  w8 : W ≤ 8
  h1 : 1 ≤ H
  h8 : H ≤ 8
  t1 : 1 ≤ T
  t8 : T ≤ 8
  ni : x.ins.length ≤ 32
  nb : x.blocks.length = ts.length
  nt : ts.length ≤ 64
  ne : x.outs.length + x.checks.length ≤ 32
  tin : ∀ t ∈ ts, 0 ≤ t ∧ t < ((W * H : Nat) : Int)
  inl : ∀ b ∈ x.blocks, b.inp.length ≤ 1048576
theorem StOK.t64 {x : Packed} {W H T : Nat} {ts : List Int} (h : StOK x W H T ts) : ∀ t ∈ ts, 0 ≤ t ∧ t ≤ 64 := fun t ht => by
  have h1 := h.tin t ht
  have h2 : W * H ≤ 8 * 8 := Nat.mul_le_mul h.w8 h.h8
  omega
/-- The places of all that reads a source. -/
def readersL (x : Packed) (W H : Nat) (ts : List Int) (s : Int) : List (Int × Int) := rdB W s x.blocks ts x.blocks.length ++ rdE W H s (x.outs ++ x.checks) (x.outs.length + x.checks.length)
theorem ow_start {t k : Nat} {f : (Int × Int) → List Value} (W : World) : OW t k f W.heap.size (W.alloc (.cells #[] t)) (.slice (some ⟨W.heap.size, 0, none⟩) 0 0) [] :=
  ⟨by simp, .inr ⟨W.heap.size, 0, #[], rfl, Nat.le_refl _, heap_alloc_new W _, Nat.le_refl _, Nat.zero_le _, by simp, by simp⟩⟩
theorem tiles_at {w : World} {ts : List Int} {s : Option Addr} {n c : Nat} (h : RS 1 RInt w 0 ts (.slice s n c)) : ∀ (i : Nat) q, ts[i]? = some q → ∃ b o, s = some ⟨b, o, none⟩ ∧ w.cell? ⟨b, o + i, none⟩ = some (.int .i64 q) := by
  intro i x hx
  rcases h.open with ⟨rfl, _⟩ | ⟨b, o, c', hv, _, _, _, he⟩
  · simp at hx
  · injection hv with e1 e2 e3
    obtain ⟨u, hu, hat, hux⟩ := he i x hx
    have hux' : u = [.int .i64 x] := hux
    subst hux'
    exact ⟨b, o, e1, by simpa using hat.get (j := 0) rfl⟩
set_option maxHeartbeats 16000000 in
theorem sReaders (x : Packed) (s0 s1 s2 s3 s4 sT : Option Addr) (c0 c1 c2 c3 c4 l0 l1 W H T P ct s : Nat) (ts : List Int) (w : World) (hx : StOK x W H T ts) (hs : s ≤ 2097152)
    (h2 : RS 6 RBlock w 0 x.blocks (.slice s2 x.blocks.length c2)) (h3 : RS 2 RPort w 0 x.outs (.slice s3 x.outs.length c3)) (h4 : RS 2 RPort w 0 x.checks (.slice s4 x.checks.length c4)) (ht : RS 1 RInt w 0 ts (.slice sT ts.length ct)) :
    Calls Tryz.prog 48 #[.agg #[.slice s0 l0 c0, .slice s1 l1 c1, .slice s2 x.blocks.length c2, .slice s3 x.outs.length c3, .slice s4 x.checks.length c4], .agg #[.int .i64 (W : Int), .int .i64 (H : Int), .int .i64 (T : Int), .int .i64 (P : Int)], .slice sT ts.length ct, .int .i64 (s : Int)] w fun e w' => (∃ v, e = .returned v ∧ OW 57 2 spC w.heap.size w' v (readersL x W H ts s)) ∧ Below w.heap.size w w' := by
  have HBS := hide (block_in h2)
  have HP3 := hide (port_src h3)
  have HP4 := hide (port_src h4)
  have HTS : Hid (∀ (i : Nat) q, ts[i]? = some q → ∃ tb to, sT = some ⟨tb, to, none⟩ ∧ w.cell? ⟨tb, to + i, none⟩ = some (.int .i64 q) ∧ 0 ≤ q ∧ q ≤ 64) := hide (fun i q hq => by
    obtain ⟨b, o, e, hc⟩ := tiles_at ht i q hq
    exact ⟨b, o, e, hc, hx.t64 q (List.mem_of_getElem? hq)⟩)
  have HX := hide hx
  have hne := hx.ne
  have hnb := hx.nb
  have hnt := hx.nt
  obtain ⟨n2, hn2⟩ : ∃ n, x.blocks.length = n := ⟨_, rfl⟩
  obtain ⟨n3, hn3⟩ : ∃ n, x.outs.length = n := ⟨_, rfl⟩
  obtain ⟨n4, hn4⟩ : ∃ n, x.checks.length = n := ⟨_, rfl⟩
  obtain ⟨N, hN⟩ : ∃ n, ts.length = n := ⟨_, rfl⟩
  have HRL : Hid (readersL x W H ts s = rdB W s x.blocks ts n2 ++ rdE W H s (x.outs ++ x.checks) (n3 + n4)) := hide (by unfold readersL; rw [hn2, hn3, hn4])
  have HN2 := hide hn2
  have HN3 := hide hn3
  have HN4 := hide hn4
  have HNN := hide hN
  rw [hn2, hn3, hn4, hN]
  rw [hn2, hN] at hnb
  rw [hn3, hn4] at hne
  rw [hN] at hnt
  clear h2 h3 h4 ht hn2 hn3 hn4 hN hx
  subst hnb
  obtain ⟨X, hX⟩ : ∃ X, X = (w.alloc (.cells #[.slice s0 l0 c0, .slice s1 l1 c1, .slice s2 n2 c2, .slice s3 n3 c3, .slice s4 n4 c4] 37)).alloc (.cells #[.int .i64 (W : Int), .int .i64 (H : Int), .int .i64 (T : Int), .int .i64 (P : Int)] 39) := ⟨_, rfl⟩
  have HXB : Hid (Below w.heap.size w X) := hide (by rw [hX]; exact bal (bal (brf w) _) _)
  have HCP : Hid (∀ V, Below X.heap.size X V → V.cell? ⟨w.heap.size, 2, none⟩ = some (.slice s2 n2 c2) ∧ V.cell? ⟨w.heap.size, 3, none⟩ = some (.slice s3 n3 c3) ∧ V.cell? ⟨w.heap.size, 4, none⟩ = some (.slice s4 n4 c4)) := hide (fun V hV => by
    rw [hX] at hV
    have K := fun (i : Nat) y hy => (new_cell (i := i) (x := y) (btr (bal (brf _) _) hV) hy).1
    exact ⟨K 2 _ rfl, K 3 _ rfl, K 4 _ rfl⟩)
  have HCC : Hid (∀ V, Below X.heap.size X V → V.cell? ⟨w.heap.size + 1, 0, none⟩ = some (.int .i64 (W : Int)) ∧ V.cell? ⟨w.heap.size + 1, 1, none⟩ = some (.int .i64 (H : Int)) ∧ V.cell? ⟨w.heap.size + 1, 2, none⟩ = some (.int .i64 (T : Int)) ∧ V.cell? ⟨w.heap.size + 1, 3, none⟩ = some (.int .i64 (P : Int))) := hide (fun V hV => by
    rw [hX] at hV
    have K := fun (i : Nat) y hy => (new_cell (i := i) (x := y) hV hy).1
    simp only [World.size_alloc] at K
    exact ⟨K 0 _ rfl, K 1 _ rfl, K 2 _ rfl, K 3 _ rfl⟩)
  have HSX : Hid (X.heap.size = w.heap.size + 1 + 1) := hide (by rw [hX]; simp)
  have HXX := hide hX
  clear hX
  go_enter Tryz.func48, Tryz.ntmps48
  go_wp2_with fail
  rw [← unhide HXX, ← unhide HSX]
  have HST := hide (ow_start (t := 57) (k := 2) (f := spC) X)
  refine rdL1 (s2 := s2) (c2 := c2) (bs := x.blocks) (ts := ts) (w := w) (X := X) (H := H) (T := T) (P := P) (unhide HX).w8 (unhide HX).w1 (unhide HN2) hnt (unhide HNN) hs (unhide HX).inl HXB HBS HTS rfl (hide (fun V hV => (unhide HCP V hV).1)) HCC HST (hide (bal (brf X) _)) ?_
  intro z10 z14 z15 z16 z17 z18 z19 z20 z21 z22 z23 z24 z25 z26 z27 z28 z29 z30 z31 z32 z33 z34 z35 z36 z37 V1 v1 ho1 hb1
  have HO1 := hide ho1
  have HB1 := hide hb1
  have HL1 := hide (Nat.le_trans (rdB_len W (s : Int) x.blocks ts n2) hnt)
  clear ho1 hb1
  go_wp2_with fail
  refine rdL2 (s3 := s3) (s4 := s4) (c3 := c3) (c4 := c4) (po := x.outs) (pc := x.checks) (w := w) (X := X) (W := W) (H := H) (T := T) (P := P) (unhide HX).w8 (unhide HX).h1 (unhide HX).h8 rfl (unhide HN3) (unhide HN4) rfl (by omega) hs (unhide HL1) HXB HP3 HP4 (hide (fun V hV => (unhide HCP V hV).2)) HCC HO1 HB1 ?_
  intro z11 y12 y38 y39 y40 y41 y42 y43 y44 y45 y46 y47 y48 y49 y50 y51 y52 y53 y54 y55 y56 y57 y58 y59 y60 y61 y62 y63 y64 y65 y66 y67 y68 y69 y70 y71 y72 y73 y74 y75 y76 y77 y78 y79 y80 y81 y82 V2 v2 ho2 hb2
  have HO2 := hide ho2
  have HB2 := hide (btr (unhide HXB) hb2)
  clear ho2 hb2
  go_wp2_with fail
  exact bodyPost_ret (v := v2) (by simp [results, Tryz.results48, go_sem]) rfl ⟨⟨_, rfl, by
    rw [unhide HRL]
    obtain ⟨h1, h2⟩ := unhide HO2
    refine ⟨h1, h2.imp id ?_⟩
    rintro ⟨g, cap, cur, hv, hg, rest⟩
    exact ⟨g, cap, cur, hv, Nat.le_trans (unhide HXB).size hg, rest⟩⟩, unhide HB2⟩
end Go.Proofs.YtlldfaniddbjaaaGreatDoor
namespace Go.Proofs.YtlldfaniddbjaaaGreatDoor
open Go Go.RowKit Gs
set_option linter.unusedVariables false
set_option maxRecDepth 100000
theorem wpAppOne {α : Type} {t ts k by_ : Nat} {f : α → List Value} (z : Value) (hu : Tryz.prog.underlying ts = some (.slice t)) (hinf : (Tryz.prog.info? t).map (fun i => (i.zero, i.size, i.bytes)) = some (some z, k, by_)) (hzs : z.cells.size = k) (hk : 0 < k) (hbl : by_ ≤ 256)
    (hf : ∀ x, (f x).length = k) (h1 : ∀ x, ∀ u ∈ f x, u.oneCell' = true)
    {ops : Array Oper} {rest : List Oper} {o : Oper} {a : Act} {Q : Exit → Act → World → Prop} {w : World} (hg : o.guard = none) (s x : Operand) (hop : o.op = Op.call { callee := Callee.builtin Builtin.append, args := #[s, x], argTypes := #[ts, ts] })
    (B : Nat) (v : Value) (xs : List α) (p : α) (M1 : Nat) (hs : a.eval s = v) (hown : OW t k f B w v xs) (hx : a.eval x = .slice (some ⟨M1, 0, none⟩) 1 1) (hat : At w M1 0 (f p)) (hlen : xs.length ≤ 4194303) (hB : B ≤ w.heap.size)
    (hK : ∀ v' w', OW t k f B w' v' (xs ++ [p]) → w.grownBy w' v.ownBlock → wpList Tryz.prog ops Q rest (a.put o.dst v') w') : wpList Tryz.prog ops Q (o :: rest) a w := by
  obtain ⟨i0, hi, hz0, hz1, hz2⟩ := info_parts hinf
  refine wpList_append_own _ hg s x ts hop B t i0 z k by_ hu hi hz0 hz1 hz2 hzs hk v xs.length (xs.flatMap f) hs hown ⟨M1, 0, none⟩ 1 1 (f p) hx (by rw [hf]; omega) (fun j u hj => by
    have := hat j u hj
    rw [Addr.add_lit]; exact this) (h1 p) (by unfold maxLen; omega) (by
      have : (xs.length + 1) * by_ ≤ 4194304 * 256 := Nat.mul_le_mul (by omega) hbl
      omega) hB ?_
  intro v' w' ho hgr _
  refine hK v' w' ?_ hgr
  unfold OW
  rw [List.length_append, List.flatMap_append]
  simpa using ho
/-- What is below both. -/
theorem below_both {B : Nat} {X wr V : World} (h1 : Below B X wr) (h2 : Below B wr V) : Below B X V :=
  ⟨h2.os.trans h1.os, h2.tape.trans h1.tape, h2.output.trans h1.output, Nat.le_trans h1.size h2.size, fun i hi => (h2.block i hi).trans (h1.block i hi)⟩
end Go.Proofs.YtlldfaniddbjaaaGreatDoor
namespace Go.Proofs.YtlldfaniddbjaaaGreatDoor
open Go Go.RowKit Gs
set_option linter.unusedVariables false
set_option linter.unusedSimpArgs false
set_option maxRecDepth 100000
set_option maxHeartbeats 16000000
/-- Those of the first tiles that are ends. -/
def tlE (W : Nat) (own : Int × Int) (ls : List (Int × Int)) : Nat → List (Int × Int)
  | 0 => []
  | k + 1 => tlE W own ls k ++ (if tileP W (k : Int) ≠ own ∧ hasP ls (tileP W (k : Int)) = true then [tileP W (k : Int)] else [])
/-- Those of the first rows that are ends. -/
def rwE (W : Nat) (ls : List (Int × Int)) : Nat → List (Int × Int)
  | 0 => []
  | k + 1 => rwE W ls k ++ (if hasP ls ((W : Int), (k : Int)) = true then [((W : Int), (k : Int))] else [])
theorem tlE_len (W : Nat) (own : Int × Int) (ls : List (Int × Int)) : ∀ k, (tlE W own ls k).length ≤ k
  | 0 => by simp [tlE]
  | k + 1 => by
    have := tlE_len W own ls k
    rw [tlE, List.length_append]
    split <;> simp <;> omega
theorem rwE_len (W : Nat) (ls : List (Int × Int)) : ∀ k, (rwE W ls k).length ≤ k
  | 0 => by simp [rwE]
  | k + 1 => by
    have := rwE_len W ls k
    rw [rwE, List.length_append]
    split <;> simp <;> omega
theorem enL1 {u0 u1 u2 u3 u4 u6 u7 u8 u13 u14 u15 u16 u17 u18 u19 u20 u21 u22 u23 u24 u25 u26 u27 u28 u29 u30 u31 u32 u33 u34 u35 u36 u37 u38 u39 u40 u41 u42 u43 u44 u45 u46 u47 u48 u49 u50 u51 u52 u53 u54 u55 u56 u57 u58 u59 u60 u61 u62 u63 u64 u65 u66 u67 u68 : Value} {W H T P g og M ll lc : Nat} {la : Option Addr} {v0 : Value} {ls : List (Int × Int)} {o1 o2 : Int} {X V0 : World} {Q : Exit → Act → World → Prop} (hW : W ≤ 8) (hW1 : 1 ≤ W) (hM : (W : Int) * (H : Int) = (M : Int)) (hM2 : M ≤ 64) (hls : ls.length ≤ 1048576)
    (HCC : Hid (∀ V, Below X.heap.size X V → V.cell? ⟨g + 1, 0, none⟩ = some (.int .i64 (W : Int)) ∧ V.cell? ⟨g + 1, 1, none⟩ = some (.int .i64 (H : Int)) ∧ V.cell? ⟨g + 1, 2, none⟩ = some (.int .i64 (T : Int)) ∧ V.cell? ⟨g + 1, 3, none⟩ = some (.int .i64 (P : Int)))) (HLS : Hid (∀ V, Below X.heap.size X V → RS 2 RSpot V 0 ls (.slice la ll lc))) (HOW : Hid (∀ V, Below X.heap.size X V → V.cell? ⟨og, 0, none⟩ = some (.int .i64 o1) ∧ V.cell? ⟨og, 1, none⟩ = some (.int .i64 o2)))
    (HO : Hid (OW 57 2 spC X.heap.size V0 v0 [])) (HB0 : Hid (Below X.heap.size X V0))
    (hQ : ∀ (zi z13 z27 z28 z29 z30 z31 z32 z33 z34 z35 z36 z37 z38 z39 z40 z41 z42 z43 z44 z45 z46 z47 z48 z49 z50 : Value) V v, OW 57 2 spC X.heap.size V v (tlE W (o1, o2) ls M) → Below X.heap.size X V → Q (.exit 0) { tmps := (u0 :: u1 :: u2 :: u3 :: u4 :: .pointer (some ⟨g + 1, 0, none⟩) :: u6 :: u7 :: u8 :: .slice la ll lc :: .pointer (some ⟨og, 0, none⟩) :: v :: zi :: z13 :: u14 :: u15 :: u16 :: u17 :: u18 :: u19 :: u20 :: u21 :: u22 :: u23 :: u24 :: u25 :: u26 :: z27 :: z28 :: z29 :: z30 :: z31 :: z32 :: z33 :: z34 :: z35 :: z36 :: z37 :: z38 :: z39 :: z40 :: z41 :: z42 :: z43 :: z44 :: z45 :: z46 :: z47 :: z48 :: z49 :: z50 :: u51 :: u52 :: u53 :: u54 :: u55 :: u56 :: u57 :: u58 :: u59 :: u60 :: u61 :: u62 :: u63 :: u64 :: u65 :: u66 :: u67 :: u68 :: []).toArray, defers := [] } V) :
    Code.wp Tryz.prog (atB 0 (bodyOf Tryz.f26)) Q { tmps := (u0 :: u1 :: u2 :: u3 :: u4 :: .pointer (some ⟨g + 1, 0, none⟩) :: u6 :: u7 :: u8 :: .slice la ll lc :: .pointer (some ⟨og, 0, none⟩) :: v0 :: .int .i64 0 :: u13 :: u14 :: u15 :: u16 :: u17 :: u18 :: u19 :: u20 :: u21 :: u22 :: u23 :: u24 :: u25 :: u26 :: u27 :: u28 :: u29 :: u30 :: u31 :: u32 :: u33 :: u34 :: u35 :: u36 :: u37 :: u38 :: u39 :: u40 :: u41 :: u42 :: u43 :: u44 :: u45 :: u46 :: u47 :: u48 :: u49 :: u50 :: u51 :: u52 :: u53 :: u54 :: u55 :: u56 :: u57 :: u58 :: u59 :: u60 :: u61 :: u62 :: u63 :: u64 :: u65 :: u66 :: u67 :: u68 :: []).toArray, defers := [] } V0 := by
  have HQ0 := hide hQ
  have HLL := hide hls
  clear hQ hls
  conv => arg 2; whnf
  go_loopw [11, 12] (fun v i wr => ∃ k : Nat, k ≤ M ∧ i = .int .i64 k ∧ OW 57 2 spC X.heap.size wr v (tlE W (o1, o2) ls k) ∧ Below X.heap.size X wr) (fun _ i wr => M - (intOf i).toNat)
  case atStart => exact ⟨0, Nat.zero_le _, rfl, unhide HO, unhide HB0⟩
  case round =>
    obtain ⟨k, hk, rfl, hot, hb⟩ := hrel
    obtain ⟨q0, q1, q2, q3⟩ := unhide HCC wr hb
    have HB := hide hb
    have HSZ := hide hb.size
    by_cases hlt : k < M
    · have HAL := hide (Nat.le_trans (tlE_len W (o1, o2) ls k) (Nat.le_trans hk hM2))
      obtain ⟨va, vc, hvs, hvc⟩ := hot.slice
      obtain ⟨vl, hvl⟩ : ∃ vl, (tlE W (o1, o2) ls k).length = vl := ⟨_, rfl⟩
      rw [hvl] at hvs
      subst hvs
      have HOT := hide hot
      have HCT := hide (fun V => sTile W H T P (k : Int) V hW hW1 ⟨by omega, by omega⟩)
      have HSE : Hid (tlE W (o1, o2) ls (k + 1) = tlE W (o1, o2) ls k ++ (if tileP W (k : Int) ≠ (o1, o2) ∧ hasP ls (tileP W (k : Int)) = true then [tileP W (k : Int)] else [])) := hide rfl
      have i2 : (k : Int) < (M : Int) := by omega
      obtain ⟨⟨p1, p2⟩, hp⟩ : ∃ p, tileP W (k : Int) = p := ⟨_, rfl⟩
      rw [hp] at HCT HSE
      clear hot hb hvl hvc hp
      generalize tlE W (o1, o2) ls k = acc at *
      have HNE : Hid ((p1, p2) = (o1, o2) ↔ p1 = o1 ∧ p2 = o2) := hide ⟨fun h => by injection h with a b; exact ⟨a, b⟩, fun h => by rw [h.1, h.2]⟩
      by_cases e : p1 = o1 ∧ p2 = o2
      · have HST : Hid (tlE W (o1, o2) ls (k + 1) = acc) := hide (by rw [unhide HSE, if_neg (fun h => h.1 ((unhide HNE).2 e)), List.append_nil])
        obtain ⟨rfl, rfl⟩ := e
        clear HSE HNE
        go_wp2_with fail
        refine (unhide HCT wr).mono ?_
        rintro ev w1 ⟨rfl, hb1⟩
        have HB1 := hide (btr (unhide HB) hb1)
        have HSZ1 := hide (unhide HB1).size
        have HOT1 := hide (((unhide HOT).later hb1).later (bal (brf w1) (.cells #[.int .i64 p1, .int .i64 p2] 57)))
        obtain ⟨a0, a1⟩ := unhide HOW (w1.alloc (.cells #[.int .i64 p1, .int .i64 p2] 57)) (bal (unhide HB1) _)
        clear hb1
        go_wp2_with fail
        go_roundw
        case rel => exact ⟨k + 1, by omega, by go_num, by rw [unhide HST]; exact unhide HOT1, bal (unhide HB1) _⟩
        case measure => simp [intOf]; omega
      · have HE := hide (show (p1, p2) ≠ (o1, o2) from fun h => e ((unhide HNE).1 h))
        obtain ⟨hb, hhb⟩ : ∃ b, hasP ls (p1, p2) = b := ⟨_, rfl⟩
        have HCH := hide (fun V hV => sHas ls (p1, p2) (.slice la ll lc) V (unhide HLL) hV)
        rw [hhb] at HCH HSE
        clear hhb HNE
        by_cases e1 : p1 = o1
        · have e2 : ¬ p2 = o2 := fun h => e ⟨e1, h⟩
          clear e
          have e1' := e1.symm
          subst e1'
          go_wp2_with fail
          refine (unhide HCT wr).mono ?_
          rintro ev w1 ⟨rfl, hb1⟩
          have HB1 := hide (btr (unhide HB) hb1)
          have HSZ1 := hide (unhide HB1).size
          have HOT1 := hide (((unhide HOT).later hb1).later (bal (brf w1) (.cells #[.int .i64 o1, .int .i64 p2] 57)))
          obtain ⟨a0, a1⟩ := unhide HOW (w1.alloc (.cells #[.int .i64 o1, .int .i64 p2] 57)) (bal (unhide HB1) _)
          clear hb1
          go_wp2_with fail
          refine (unhide HCH (w1.alloc (.cells #[.int .i64 o1, .int .i64 p2] 57)) (unhide HLS _ (bal (unhide HB1) _))).mono ?_
          rintro ev w2 ⟨rfl, hb2⟩
          have HB2 := hide (btr (bal (unhide HB1) _) hb2)
          have HOT2 := hide ((unhide HOT1).later hb2)
          have HSZ2 := hide (unhide HB2).size
          obtain ⟨n0, n1⟩ : w2.cell? ⟨w1.heap.size, 0, none⟩ = some (.int .i64 o1) ∧ w2.cell? ⟨w1.heap.size, 1, none⟩ = some (.int .i64 p2) := ⟨(new_cell hb2 rfl).1, (new_cell hb2 rfl).1⟩
          clear hb2 a0 a1 HOT1 HCT HCH
          cases hb
          · have HST : Hid (tlE W (o1, o2) ls (k + 1) = acc) := hide (by rw [unhide HSE, if_neg (fun h => by cases h.2), List.append_nil])
            clear HSE
            go_wp2_with fail
            go_roundw
            case rel => exact ⟨k + 1, by omega, by go_num, by rw [unhide HST]; exact unhide HOT2, unhide HB2⟩
            case measure => simp [intOf]; omega
          · have HST : Hid (tlE W (o1, o2) ls (k + 1) = acc ++ [(o1, p2)]) := hide (by rw [unhide HSE, if_pos ⟨unhide HE, rfl⟩])
            clear HSE
            go_wp2_with (first
              | (at_builtin; refine wpAppOne spZ Tryz.underlying68 info57 rfl (by decide) (by decide) spC_len spC_one rfl _ _ rfl X.heap.size (.slice va vl vc) acc (o1, p2) w2.heap.size rfl ((unhide HOT2).later (bal (brf _) _)) rfl (new_at w2 (spC (o1, p2)) 57) (by have := unhide HAL; omega) (by have := unhide HSZ2; simp; omega) ?_; intro v' w3 hown' hgrow)
              | go_in)
            have HR3 := hide hown'
            have HB3 := hide (below_grown (bal (unhide HB2) (.cells #[.int .i64 o1, .int .i64 p2] 57)) hgrow (by have := unhide HSZ2; simp; omega) (unhide HOT2).row)
            clear hown' hgrow
            go_roundw
            case rel => exact ⟨k + 1, by omega, by go_num, by rw [unhide HST]; exact unhide HR3, unhide HB3⟩
            case measure => simp [intOf]; omega
        · clear e
          go_wp2_with fail
          refine (unhide HCT wr).mono ?_
          rintro ev w1 ⟨rfl, hb1⟩
          have HB1 := hide (btr (unhide HB) hb1)
          have HSZ1 := hide (unhide HB1).size
          have HOT1 := hide (((unhide HOT).later hb1).later (bal (brf w1) (.cells #[.int .i64 p1, .int .i64 p2] 57)))
          obtain ⟨a0, a1⟩ := unhide HOW (w1.alloc (.cells #[.int .i64 p1, .int .i64 p2] 57)) (bal (unhide HB1) _)
          clear hb1
          go_wp2_with fail
          refine (unhide HCH (w1.alloc (.cells #[.int .i64 p1, .int .i64 p2] 57)) (unhide HLS _ (bal (unhide HB1) _))).mono ?_
          rintro ev w2 ⟨rfl, hb2⟩
          have HB2 := hide (btr (bal (unhide HB1) _) hb2)
          have HOT2 := hide ((unhide HOT1).later hb2)
          have HSZ2 := hide (unhide HB2).size
          obtain ⟨n0, n1⟩ : w2.cell? ⟨w1.heap.size, 0, none⟩ = some (.int .i64 p1) ∧ w2.cell? ⟨w1.heap.size, 1, none⟩ = some (.int .i64 p2) := ⟨(new_cell hb2 rfl).1, (new_cell hb2 rfl).1⟩
          clear hb2 a0 a1 HOT1 HCT HCH
          cases hb
          · have HST : Hid (tlE W (o1, o2) ls (k + 1) = acc) := hide (by rw [unhide HSE, if_neg (fun h => by cases h.2), List.append_nil])
            clear HSE
            go_wp2_with fail
            go_roundw
            case rel => exact ⟨k + 1, by omega, by go_num, by rw [unhide HST]; exact unhide HOT2, unhide HB2⟩
            case measure => simp [intOf]; omega
          · have HST : Hid (tlE W (o1, o2) ls (k + 1) = acc ++ [(p1, p2)]) := hide (by rw [unhide HSE, if_pos ⟨unhide HE, rfl⟩])
            clear HSE
            go_wp2_with (first
              | (at_builtin; refine wpAppOne spZ Tryz.underlying68 info57 rfl (by decide) (by decide) spC_len spC_one rfl _ _ rfl X.heap.size (.slice va vl vc) acc (p1, p2) w2.heap.size rfl ((unhide HOT2).later (bal (brf _) _)) rfl (new_at w2 (spC (p1, p2)) 57) (by have := unhide HAL; omega) (by have := unhide HSZ2; simp; omega) ?_; intro v' w3 hown' hgrow)
              | go_in)
            have HR3 := hide hown'
            have HB3 := hide (below_grown (bal (unhide HB2) (.cells #[.int .i64 p1, .int .i64 p2] 57)) hgrow (by have := unhide HSZ2; simp; omega) (unhide HOT2).row)
            clear hown' hgrow
            go_roundw
            case rel => exact ⟨k + 1, by omega, by go_num, by rw [unhide HST]; exact unhide HR3, unhide HB3⟩
            case measure => simp [intOf]; omega
    · obtain rfl : k = M := by omega
      have HOT := hide hot
      clear hot hb
      go_wp2_with fail
      exact unhide HQ0 _ _ _ _ _ _ _ _ _ _ _ _ _ _ _ _ _ _ _ _ _ _ _ _ _ _ wr u11 (unhide HOT) (unhide HB)
end Go.Proofs.YtlldfaniddbjaaaGreatDoor
