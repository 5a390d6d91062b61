/- The specification's FsmRun: its regions that draw. -/
import Derived.Test.YtjbbjgoofenkpaaR2
namespace Go.Proofs.Ytjbbjgoofenkpaa
open Go.RowKit Gs
set_option linter.unusedVariables false
set_option linter.unusedSimpArgs false
set_option maxRecDepth 100000
def FT10 (ins z : Int) (w : World) (lz cz bz oz k N : Nat) : Nat → Value → Prop
  | 0, v => v = .slice (some ⟨bz, oz, none⟩) lz cz
  | 1, v => v = .int .i64 (k : Int)
  | 2, v => v = .pointer (some ⟨bz, oz + k, none⟩)
  | 3, v => v = .int .i64 z
  | 4, v => v = .bool (decide (z < 0))
  | 5, v => v = .bool (decide (z < 0))
  | 6, v => (decide (z < 0)) = false → v = .slice (some ⟨bz, oz, none⟩) lz cz
  | 7, v => (decide (z < 0)) = false → v = .int .i64 (k : Int)
  | 8, v => (decide (z < 0)) = false → v = .pointer (some ⟨bz, oz + k, none⟩)
  | 9, v => (decide (z < 0)) = false → v = .int .i64 z
  | 10, v => (decide (z < 0)) = false → v = .pointer (some ⟨w.heap.size, 0, none⟩)
  | 11, v => (decide (z < 0)) = false → v = .int .i64 ins
  | 12, v => (decide (z < 0)) = false → v = .int .i64 (N : Int)
  | 13, v => (decide (z < 0)) = false → v = .bool (decide ((N : Int) ≤ z))
  | 14, v => v = .bool ((decide (z < 0)) || (decide ((N : Int) ≤ z)))
  | _, _ => True
def FT12 (w : World) (n c3 b3 o3 lz cz bz oz k s bx ox nx y1 i t : Nat) : Nat → Value → Prop
  | 0, v => v = .pointer (some ⟨w.heap.size, 3, none⟩)
  | 1, v => v = .slice (some ⟨b3, o3, none⟩) n c3
  | 2, v => v = .int .i64 (s : Int)
  | 3, v => v = .pointer (some ⟨b3, o3 + s, none⟩)
  | 4, v => v = .slice (some ⟨bx, ox, none⟩) nx y1
  | 5, v => v = .slice (some ⟨bz, oz, none⟩) lz cz
  | 6, v => v = .int .i64 (k : Int)
  | 7, v => v = .pointer (some ⟨bz, oz + k, none⟩)
  | 8, v => v = .int .i64 (i : Int)
  | 9, v => v = .pointer (some ⟨bx, ox + i, none⟩)
  | 10, v => v = .int .i64 (t : Int)
  | 11, v => v = .int .i64 (t : Int)
  | _, _ => True
/-- The body of the loop over inputs, and its regions. -/
def atL (c : Go.Code) : Go.Code := blC (hdC (snC (loC (blC (snC (hdC (tl 5 c)))))))
def atR10 (c : Go.Code) : Go.Code := hdC (hdC (atL c))
def atR12r (c : Go.Code) : Go.Code := hdC (snC (atL c))
def atR13 (c : Go.Code) : Go.Code := snC (snC (atL c))
set_option maxHeartbeats 32000000 in
theorem run10 {Q : Exit → Act → World → Prop} (ins ob : Int) (n c2 c3 c4 b2 o2 b3 o3 b4 o4 lz cz bz oz k s : Nat) (z : Int) (N : Nat) (tv : Value) (w W : World) (hbx : Bt 31 w #[.int .i64 ins, .int .i64 ob, .slice (some ⟨b2, o2, none⟩) n c2, .slice (some ⟨b3, o3, none⟩) n c3, .slice (some ⟨b4, o4, none⟩) n c4] W) (hwI : IntKind.i64.wrap (2 ^ ins.toNat) = (N : Int)) (k0 : 0 ≤ ins) (k1 : ins ≤ 5) (hmz : W.cell? ⟨bz, oz + k, none⟩ = some (.int .i64 z)) (j1 : (k : Int) < (lz : Int)) (hk : k < 4096) (hlz : lz ≤ 4096)
    (u3 u4 u5 u9 u10 u11 u12 u13 u14 u15 u16 u17 u18 u19 u20 u21 u22 u23 u24 u25 u26 u27 u28 u29 u30 u31 u32 u33 u34 u35 u36 u37 u38 u39 u40 u41 u42 u43 u44 u45 u46 u47 u48 u49 u50 u51 u52 u53 u54 u55 u56 u57 u58 u59 u60 u61 u62 u63 u64 u65 : Value) (hQ : ∀ (p24 p25 p26 p27 p28 p29 p30 p31 p32 p33 p34 p35 p36 p37 : Value) (V : World), Below W.heap.size W V → Q .normal { tmps := #[.agg #[.int .i64 ins, .int .i64 ob, .slice (some ⟨b2, o2, none⟩) n c2, .slice (some ⟨b3, o3, none⟩) n c3, .slice (some ⟨b4, o4, none⟩) n c4], .slice (some ⟨bz, oz, none⟩) lz cz, .pointer (some ⟨w.heap.size, 0, none⟩), u3, u4, u5, tv, .int .i64 (s : Int), .int .i64 (k : Int), u9, u10, u11, u12, u13, u14, u15, u16, u17, u18, u19, u20, u21, u22, u23, p24, p25, p26, p27, p28, p29, p30, p31, p32, p33, p34, p35, p36, p37, .bool ((decide (z < 0)) || (decide ((N : Int) ≤ z))), u39, u40, u41, u42, u43, u44, u45, u46, u47, u48, u49, u50, u51, u52, u53, u54, u55, u56, u57, u58, u59, u60, u61, u62, u63, u64, u65], defers := [] } V) :
    Code.wp Try.prog (atR10 (bodyOf Try.f5)) Q { tmps := #[.agg #[.int .i64 ins, .int .i64 ob, .slice (some ⟨b2, o2, none⟩) n c2, .slice (some ⟨b3, o3, none⟩) n c3, .slice (some ⟨b4, o4, none⟩) n c4], .slice (some ⟨bz, oz, none⟩) lz cz, .pointer (some ⟨w.heap.size, 0, none⟩), u3, u4, u5, tv, .int .i64 (s : Int), .int .i64 (k : Int), u9, u10, u11, u12, u13, u14, u15, u16, u17, u18, u19, u20, u21, u22, u23, u24, u25, u26, u27, u28, u29, u30, u31, u32, u33, u34, u35, u36, u37, u38, u39, u40, u41, u42, u43, u44, u45, u46, u47, u48, u49, u50, u51, u52, u53, u54, u55, u56, u57, u58, u59, u60, u61, u62, u63, u64, u65], defers := [] } W := by
  have HX := hide hbx
  have HQ : Hid (∀ V, Below W.heap.size W V → V.cell? ⟨w.heap.size, 0, none⟩ = some (.int .i64 ins) ∧ V.cell? ⟨w.heap.size, 1, none⟩ = some (.int .i64 ob) ∧ V.cell? ⟨w.heap.size, 2, none⟩ = some (.slice (some ⟨b2, o2, none⟩) n c2) ∧ V.cell? ⟨w.heap.size, 3, none⟩ = some (.slice (some ⟨b3, o3, none⟩) n c3) ∧ V.cell? ⟨w.heap.size, 4, none⟩ = some (.slice (some ⟨b4, o4, none⟩) n c4)) := hide (fun V h => (hbx.then h).get5)
  have HQQ := hide hQ
  clear hQ hbx
  conv => arg 2; whnf
  refine wp_plan (GF (FT10 ins z w lz cz bz oz k N)) (JB W) (by kernel_rfl) 66 (by kernel_rfl) (by kernel_rfl) ?hj ?hs ?hf
  case hj => exact bdr (brf W)
  case hs =>
    refine ⟨?_, ?_, ?_, ?_, ?_, ?_, ?_, ?_, ?_, ?_, ?_, ?_, ?_, ?_, ?_, trivial⟩
    · exact st_val rfl (fun l a V hp ha => ⟨.slice (some ⟨bz, oz, none⟩) lz cz, by
        have x1 := (ev_form a 1).trans (old hp 1 (v := .slice (some ⟨bz, oz, none⟩) lz cz) (by kernel_rfl) (by kernel_rfl))
        go_simp, rfl⟩)
    · exact st_val rfl (fun l a V hp ha => ⟨.int .i64 (k : Int), by
        have x8 := (ev_form a 8).trans (old hp 8 (v := .int .i64 (k : Int)) (by kernel_rfl) (by kernel_rfl))
        go_simp, rfl⟩)
    · exact st_val rfl (fun l a V hp ha => ⟨.pointer (some ⟨bz, oz + k, none⟩), by
        have x24 := (ev_form a 24).trans (show a.eval (.tmp 24) = .slice (some ⟨bz, oz, none⟩) lz cz from kn hp ha 24 0 (by kernel_rfl) (by kernel_rfl))
        have x25 := (ev_form a 25).trans (show a.eval (.tmp 25) = .int .i64 (k : Int) from kn hp ha 25 1 (by kernel_rfl) (by kernel_rfl))
        go_simp, rfl⟩)
    · exact st_val rfl (fun l a V hp ha => ⟨.int .i64 z, by
        have x26 := (ev_form a 26).trans (show a.eval (.tmp 26) = .pointer (some ⟨bz, oz + k, none⟩) from kn hp ha 26 2 (by kernel_rfl) (by kernel_rfl))
        have mz := cell_later hp.j hmz
        go_simp, rfl⟩)
    · exact st_val rfl (fun l a V hp ha => ⟨.bool (decide (z < 0)), by
        have x27 := (ev_form a 27).trans (show a.eval (.tmp 27) = .int .i64 z from kn hp ha 27 3 (by kernel_rfl) (by kernel_rfl))
        go_simp, rfl⟩)
    · exact st_val rfl (fun l a V hp ha => ⟨.bool (decide (z < 0)), by
        have x28 := (ev_form a 28).trans (show a.eval (.tmp 28) = .bool (decide (z < 0)) from kn hp ha 28 4 (by kernel_rfl) (by kernel_rfl))
        go_simp, rfl⟩)
    · exact st_valg (c := (decide (z < 0))) rfl rfl (by simp) (by kernel_rfl) (fun v h => h) (fun hn hc => absurd hc hn) (fun l a V hp ha hc => ⟨.slice (some ⟨bz, oz, none⟩) lz cz, by
        have x1 := (ev_form a 1).trans (old hp 1 (v := .slice (some ⟨bz, oz, none⟩) lz cz) (by kernel_rfl) (by kernel_rfl))
        go_simp, fun _ => rfl⟩)
    · exact st_valg (c := (decide (z < 0))) rfl rfl (by simp) (by kernel_rfl) (fun v h => h) (fun hn hc => absurd hc hn) (fun l a V hp ha hc => ⟨.int .i64 (k : Int), by
        have x8 := (ev_form a 8).trans (old hp 8 (v := .int .i64 (k : Int)) (by kernel_rfl) (by kernel_rfl))
        go_simp, fun _ => rfl⟩)
    · exact st_valg (c := (decide (z < 0))) rfl rfl (by simp) (by kernel_rfl) (fun v h => h) (fun hn hc => absurd hc hn) (fun l a V hp ha hc => ⟨.pointer (some ⟨bz, oz + k, none⟩), by
        have x30 := (ev_form a 30).trans (show a.eval (.tmp 30) = .slice (some ⟨bz, oz, none⟩) lz cz from (kn hp ha 30 6 (by kernel_rfl) (by kernel_rfl)) hc)
        have x31 := (ev_form a 31).trans (show a.eval (.tmp 31) = .int .i64 (k : Int) from (kn hp ha 31 7 (by kernel_rfl) (by kernel_rfl)) hc)
        go_simp, fun _ => rfl⟩)
    · exact st_valg (c := (decide (z < 0))) rfl rfl (by simp) (by kernel_rfl) (fun v h => h) (fun hn hc => absurd hc hn) (fun l a V hp ha hc => ⟨.int .i64 z, by
        have x32 := (ev_form a 32).trans (show a.eval (.tmp 32) = .pointer (some ⟨bz, oz + k, none⟩) from (kn hp ha 32 8 (by kernel_rfl) (by kernel_rfl)) hc)
        have mz := cell_later hp.j hmz
        go_simp, fun _ => rfl⟩)
    · exact st_valg (c := (decide (z < 0))) rfl rfl (by simp) (by kernel_rfl) (fun v h => h) (fun hn hc => absurd hc hn) (fun l a V hp ha hc => ⟨.pointer (some ⟨w.heap.size, 0, none⟩), by
        have x2 := (ev_form a 2).trans (old hp 2 (v := .pointer (some ⟨w.heap.size, 0, none⟩)) (by kernel_rfl) (by kernel_rfl))
        go_simp, fun _ => rfl⟩)
    · exact st_valg (c := (decide (z < 0))) rfl rfl (by simp) (by kernel_rfl) (fun v h => h) (fun hn hc => absurd hc hn) (fun l a V hp ha hc => ⟨.int .i64 ins, by
        have x34 := (ev_form a 34).trans (show a.eval (.tmp 34) = .pointer (some ⟨w.heap.size, 0, none⟩) from (kn hp ha 34 10 (by kernel_rfl) (by kernel_rfl)) hc)
        obtain ⟨q0, q1, q2, q3, q4⟩ := unhide HQ V hp.j
        go_simp, fun _ => rfl⟩)
    · exact st_valg (c := (decide (z < 0))) rfl rfl (by simp) (by kernel_rfl) (fun v h => h) (fun hn hc => absurd hc hn) (fun l a V hp ha hc => ⟨.int .i64 (N : Int), by
        have x35 := (ev_form a 35).trans (show a.eval (.tmp 35) = .int .i64 ins from (kn hp ha 35 11 (by kernel_rfl) (by kernel_rfl)) hc)
        have hw := hwI
        go_simp, fun _ => rfl⟩)
    · exact st_valg (c := (decide (z < 0))) rfl rfl (by simp) (by kernel_rfl) (fun v h => h) (fun hn hc => absurd hc hn) (fun l a V hp ha hc => ⟨.bool (decide ((N : Int) ≤ z)), by
        have x33 := (ev_form a 33).trans (show a.eval (.tmp 33) = .int .i64 z from (kn hp ha 33 9 (by kernel_rfl) (by kernel_rfl)) hc)
        have x36 := (ev_form a 36).trans (show a.eval (.tmp 36) = .int .i64 (N : Int) from (kn hp ha 36 12 (by kernel_rfl) (by kernel_rfl)) hc)
        go_simp, fun _ => rfl⟩)
    · refine st_val rfl (fun l a V hp ha => ?_)
      have x29 := (ev_form a 29).trans (show a.eval (.tmp 29) = .bool (decide (z < 0)) from kn hp ha 29 5 (by kernel_rfl) (by kernel_rfl))
      have k37 := kn hp ha 37 13 (by kernel_rfl) (by kernel_rfl)
      have hF : ∀ c : Bool, (decide (z < 0)) = c → ∃ x, (execOp a.eval { dst := some 38, op := .pick (.tmp 29) (.const (.bool true)) (.tmp 37), type := 4, pos := "l09_fsm.go:38", after := #[{ on := 5, ground := .data }, { on := 13, ground := .data }], guard := none }).run Try.prog V = .ok (.value x) V ∧ x = .bool ((decide (z < 0)) || (decide ((N : Int) ≤ z))) := by
        intro c hc
        cases c with
        | true =>
          rw [hc] at x29 ⊢
          exact ⟨.bool true, by go_simp, rfl⟩
        | false =>
          have x37 := (ev_form a 37).trans (show a.eval (.tmp 37) = .bool (decide ((N : Int) ≤ z)) from k37 hc)
          rw [hc] at x29 ⊢
          exact ⟨.bool (decide ((N : Int) ≤ z)), by go_simp, by rw [Bool.false_or]⟩
      exact hF _ rfl
  case hf =>
    intro l a V hp hdone
    have HBV := hide hp.j
    obtain ⟨us, ea, hus⟩ := putAll_of [24, 25, 26, 27, 28, 29, 30, 31, 32, 33, 34, 35, 36, 37, 38] hp.nt hp.df (fun t ht => hp.keep t (dstIn (by kernel_rfl) ht))
    have hu38 : us 38 = .bool ((decide (z < 0)) || (decide ((N : Int) ≤ z))) := (hus 38).trans (hp.good 14 _ 38 rfl rfl (hdone 14 (by decide)))
    clear hp hdone hus
    subst ea
    simp only [putAll, List.foldl, Act.put, List.setIfInBounds_toArray, List.set_cons_zero, List.set_cons_succ, hu38]
    exact unhide HQQ (us 24) (us 25) (us 26) (us 27) (us 28) (us 29) (us 30) (us 31) (us 32) (us 33) (us 34) (us 35) (us 36) (us 37) V (unhide HBV)
set_option maxHeartbeats 32000000 in
theorem run12 {Q : Exit → Act → World → Prop} (ins ob : Int) (n c2 c3 c4 b2 o2 b3 o3 b4 o4 lz cz bz oz k s : Nat) (bx ox nx y1 i t : Nat) (tv : Value) (w W : World) (hbx : Bt 31 w #[.int .i64 ins, .int .i64 ob, .slice (some ⟨b2, o2, none⟩) n c2, .slice (some ⟨b3, o3, none⟩) n c3, .slice (some ⟨b4, o4, none⟩) n c4] W) (hmz : W.cell? ⟨bz, oz + k, none⟩ = some (.int .i64 (i : Int))) (hm3 : W.cell? ⟨b3, o3 + s, none⟩ = some (.slice (some ⟨bx, ox, none⟩) nx y1)) (hmx : W.cell? ⟨bx, ox + i, none⟩ = some (.int .i64 (t : Int))) (j1 : (k : Int) < (lz : Int)) (j2 : (s : Int) < (n : Int)) (j3 : (i : Int) < (nx : Int)) (hk : k < 4096) (hs : s < 64) (hi : i < 64)
    (u3 u4 u5 u9 u10 u11 u12 u13 u14 u15 u16 u17 u18 u19 u20 u21 u22 u23 u24 u25 u26 u27 u28 u29 u30 u31 u32 u33 u34 u35 u36 u37 u38 u39 u40 u41 u42 u43 u44 u45 u46 u47 u48 u49 u50 u51 u52 u53 u54 u55 u56 u57 u58 u59 u60 u61 u62 u63 u64 u65 : Value) (hQ : ∀ (p40 p41 p42 p43 p44 p45 p46 p47 p48 p49 p50 : Value) (V : World), Below W.heap.size W V → Q .normal { tmps := #[.agg #[.int .i64 ins, .int .i64 ob, .slice (some ⟨b2, o2, none⟩) n c2, .slice (some ⟨b3, o3, none⟩) n c3, .slice (some ⟨b4, o4, none⟩) n c4], .slice (some ⟨bz, oz, none⟩) lz cz, .pointer (some ⟨w.heap.size, 0, none⟩), u3, u4, u5, tv, .int .i64 (t : Int), .int .i64 (k : Int), u9, u10, u11, u12, u13, u14, u15, u16, u17, u18, u19, u20, u21, u22, u23, u24, u25, u26, u27, u28, u29, u30, u31, u32, u33, u34, u35, u36, u37, u38, u39, p40, p41, p42, p43, p44, p45, p46, p47, p48, p49, p50, u51, u52, u53, u54, u55, u56, u57, u58, u59, u60, u61, u62, u63, u64, u65], defers := [] } V) :
    Code.wp Try.prog (atR12r (bodyOf Try.f5)) Q { tmps := #[.agg #[.int .i64 ins, .int .i64 ob, .slice (some ⟨b2, o2, none⟩) n c2, .slice (some ⟨b3, o3, none⟩) n c3, .slice (some ⟨b4, o4, none⟩) n c4], .slice (some ⟨bz, oz, none⟩) lz cz, .pointer (some ⟨w.heap.size, 0, none⟩), u3, u4, u5, tv, .int .i64 (s : Int), .int .i64 (k : Int), u9, u10, u11, u12, u13, u14, u15, u16, u17, u18, u19, u20, u21, u22, u23, u24, u25, u26, u27, u28, u29, u30, u31, u32, u33, u34, u35, u36, u37, u38, u39, u40, u41, u42, u43, u44, u45, u46, u47, u48, u49, u50, u51, u52, u53, u54, u55, u56, u57, u58, u59, u60, u61, u62, u63, u64, u65], defers := [] } W := by
  have HX := hide hbx
  have HQ : Hid (∀ V, Below W.heap.size W V → V.cell? ⟨w.heap.size, 0, none⟩ = some (.int .i64 ins) ∧ V.cell? ⟨w.heap.size, 1, none⟩ = some (.int .i64 ob) ∧ V.cell? ⟨w.heap.size, 2, none⟩ = some (.slice (some ⟨b2, o2, none⟩) n c2) ∧ V.cell? ⟨w.heap.size, 3, none⟩ = some (.slice (some ⟨b3, o3, none⟩) n c3) ∧ V.cell? ⟨w.heap.size, 4, none⟩ = some (.slice (some ⟨b4, o4, none⟩) n c4)) := hide (fun V h => (hbx.then h).get5)
  have HQQ := hide hQ
  clear hQ hbx
  conv => arg 2; whnf
  refine wp_plan (GF (FT12 w n c3 b3 o3 lz cz bz oz k s bx ox nx y1 i t)) (JB W) (by kernel_rfl) 66 (by kernel_rfl) (by kernel_rfl) ?hj ?hs ?hf
  case hj => exact bdr (brf W)
  case hs =>
    refine ⟨?_, ?_, ?_, ?_, ?_, ?_, ?_, ?_, ?_, ?_, ?_, ?_, trivial⟩
    · exact st_val rfl (fun l a V hp ha => ⟨.pointer (some ⟨w.heap.size, 3, none⟩), by
        have x2 := (ev_form a 2).trans (old hp 2 (v := .pointer (some ⟨w.heap.size, 0, none⟩)) (by kernel_rfl) (by kernel_rfl))
        go_simp, rfl⟩)
    · exact st_val rfl (fun l a V hp ha => ⟨.slice (some ⟨b3, o3, none⟩) n c3, by
        have x40 := (ev_form a 40).trans (show a.eval (.tmp 40) = .pointer (some ⟨w.heap.size, 3, none⟩) from kn hp ha 40 0 (by kernel_rfl) (by kernel_rfl))
        obtain ⟨q0, q1, q2, q3, q4⟩ := unhide HQ V hp.j
        go_simp, rfl⟩)
    · exact st_valu rfl (fun l a V hp hu ha => ⟨.int .i64 (s : Int), by
          have x7 := (ev_form a 7).trans (old2 hp hu 7 11 (v := .int .i64 (s : Int)) (by kernel_rfl) (by kernel_rfl) (by kernel_rfl))
          go_simp, rfl⟩)
    · exact st_val rfl (fun l a V hp ha => ⟨.pointer (some ⟨b3, o3 + s, none⟩), by
        have x41 := (ev_form a 41).trans (show a.eval (.tmp 41) = .slice (some ⟨b3, o3, none⟩) n c3 from kn hp ha 41 1 (by kernel_rfl) (by kernel_rfl))
        have x42 := (ev_form a 42).trans (show a.eval (.tmp 42) = .int .i64 (s : Int) from kn hp ha 42 2 (by kernel_rfl) (by kernel_rfl))
        go_simp, rfl⟩)
    · exact st_val rfl (fun l a V hp ha => ⟨.slice (some ⟨bx, ox, none⟩) nx y1, by
        have x43 := (ev_form a 43).trans (show a.eval (.tmp 43) = .pointer (some ⟨b3, o3 + s, none⟩) from kn hp ha 43 3 (by kernel_rfl) (by kernel_rfl))
        have m3 := cell_later hp.j hm3
        go_simp, rfl⟩)
    · exact st_val rfl (fun l a V hp ha => ⟨.slice (some ⟨bz, oz, none⟩) lz cz, by
        have x1 := (ev_form a 1).trans (old hp 1 (v := .slice (some ⟨bz, oz, none⟩) lz cz) (by kernel_rfl) (by kernel_rfl))
        go_simp, rfl⟩)
    · exact st_val rfl (fun l a V hp ha => ⟨.int .i64 (k : Int), by
        have x8 := (ev_form a 8).trans (old hp 8 (v := .int .i64 (k : Int)) (by kernel_rfl) (by kernel_rfl))
        go_simp, rfl⟩)
    · exact st_val rfl (fun l a V hp ha => ⟨.pointer (some ⟨bz, oz + k, none⟩), by
        have x45 := (ev_form a 45).trans (show a.eval (.tmp 45) = .slice (some ⟨bz, oz, none⟩) lz cz from kn hp ha 45 5 (by kernel_rfl) (by kernel_rfl))
        have x46 := (ev_form a 46).trans (show a.eval (.tmp 46) = .int .i64 (k : Int) from kn hp ha 46 6 (by kernel_rfl) (by kernel_rfl))
        go_simp, rfl⟩)
    · exact st_val rfl (fun l a V hp ha => ⟨.int .i64 (i : Int), by
        have x47 := (ev_form a 47).trans (show a.eval (.tmp 47) = .pointer (some ⟨bz, oz + k, none⟩) from kn hp ha 47 7 (by kernel_rfl) (by kernel_rfl))
        have mz := cell_later hp.j hmz
        go_simp, rfl⟩)
    · exact st_val rfl (fun l a V hp ha => ⟨.pointer (some ⟨bx, ox + i, none⟩), by
        have x44 := (ev_form a 44).trans (show a.eval (.tmp 44) = .slice (some ⟨bx, ox, none⟩) nx y1 from kn hp ha 44 4 (by kernel_rfl) (by kernel_rfl))
        have x48 := (ev_form a 48).trans (show a.eval (.tmp 48) = .int .i64 (i : Int) from kn hp ha 48 8 (by kernel_rfl) (by kernel_rfl))
        go_simp, rfl⟩)
    · exact st_val rfl (fun l a V hp ha => ⟨.int .i64 (t : Int), by
        have x49 := (ev_form a 49).trans (show a.eval (.tmp 49) = .pointer (some ⟨bx, ox + i, none⟩) from kn hp ha 49 9 (by kernel_rfl) (by kernel_rfl))
        have mx := cell_later hp.j hmx
        go_simp, rfl⟩)
    · exact st_val rfl (fun l a V hp ha => ⟨.int .i64 (t : Int), by
        have x50 := (ev_form a 50).trans (show a.eval (.tmp 50) = .int .i64 (t : Int) from kn hp ha 50 10 (by kernel_rfl) (by kernel_rfl))
        go_simp, rfl⟩)
  case hf =>
    intro l a V hp hdone
    have HBV := hide hp.j
    obtain ⟨us, ea, hus⟩ := putAll_of [40, 41, 42, 43, 44, 45, 46, 47, 48, 49, 50, 7] hp.nt hp.df (fun t ht => hp.keep t (dstIn (by kernel_rfl) ht))
    have hu7 : us 7 = .int .i64 (t : Int) := (hus 7).trans (hp.good 11 _ 7 rfl rfl (hdone 11 (by decide)))
    clear hp hdone hus
    subst ea
    simp only [putAll, List.foldl, Act.put, List.setIfInBounds_toArray, List.set_cons_zero, List.set_cons_succ, hu7]
    exact unhide HQQ (us 40) (us 41) (us 42) (us 43) (us 44) (us 45) (us 46) (us 47) (us 48) (us 49) (us 50) V (unhide HBV)
end Go.Proofs.Ytjbbjgoofenkpaa
