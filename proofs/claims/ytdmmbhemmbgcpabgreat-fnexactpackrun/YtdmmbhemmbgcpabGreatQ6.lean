/- newMapRun. -/
import Derived.Test.YtdmmbhemmbgcpabGreatQ5
import Derived.Test.YtdmmbhemmbgcpabGreatGFB
namespace Go.Proofs.YtdmmbhemmbgcpabGreat
open Go Go.RowKit Gs
set_option linter.unusedVariables false
set_option linter.unusedSimpArgs false
set_option maxRecDepth 100000
theorem make_zeros (n : Nat) (hn : n ≤ 1048576 * 8) : ∃ M : Array Value, M.size = n ∧ (∀ i, i < n → M[i]? = some (.int .i64 0)) ∧ ∀ W : World, (Instr.makeSlice 64 (.int .i64 (n : Int)) (.int .i64 (n : Int))).run Tryz.prog W = .ok (.slice (some ⟨W.heap.size, 0, none⟩) n n) (W.alloc (.cells M 3)) := by
  obtain ⟨i0, hi, hz0, hz1, hz2⟩ := info_parts info3
  refine ⟨madeCells #[.int .i64 0] n, size_madeCells #[.int .i64 0] n, fun i hi => by simp [madeCells, hi, Nat.mod_one], fun W => ?_⟩
  have hr := run_make (P := Tryz.prog) W 64 3 i0 _ (by kernel_rfl) hi hz0 .i64 .i64 n n (by omega) (Int.le_refl _) (by rw [hz2]; omega) (by omega)
  rw [hr, hz1]
  simp
  rfl
/-- Zeros that were made. -/
def MB (B n : Nat) (W : World) (g : Nat) : Prop := B ≤ g ∧ g < W.heap.size ∧ ∀ i, i < n → W.cell? ⟨g, i, none⟩ = some (.int .i64 0) ∧ W.frozen? ⟨g, i, none⟩ = false
theorem MB.later {B n g : Nat} {W W' : World} (h : MB B n W g) (hb : Below W.heap.size W W') : MB B n W' g :=
  ⟨h.1, Nat.lt_of_lt_of_le h.2.1 hb.size, fun i hi => ⟨cell_later hb (h.2.2 i hi).1, frozen_later hb (h.2.2 i hi).1 (h.2.2 i hi).2⟩⟩
def FQ1 (B pb FA n : Nat) (s0 s1 s2 s3 s4 s5 : Option Addr) (l0 l1 l2 l3 l4 l5 c0 c1 c2 c3 c4 c5 : Nat) : Nat → World → Value → Prop
  | 0, W, v => v = .agg #[.slice s0 l0 c0, .slice s1 l1 c1, .slice s2 l2 c2, .slice s3 l3 c3, .slice s4 l4 c4, .slice s5 l5 c5]
  | 1, W, v => v = .agg #[.slice s0 l0 c0, .slice s1 l1 c1, .slice s2 l2 c2, .slice s3 l3 c3, .slice s4 l4 c4, .slice s5 l5 c5]
  | 2, W, v => v = .int .i64 (FA : Int)
  | 3, W, v => v = .pointer (some ⟨pb, 3, none⟩)
  | 4, W, v => v = .slice s3 l3 c3
  | 5, W, v => v = .int .i64 (l3 : Int)
  | 6, W, v => v = .int .i64 (n : Int)
  | 7, W, v => ∃ g, v = .slice (some ⟨g, 0, none⟩) n n ∧ MB B n W g
  | 8, W, v => ∃ g, v = .agg #[.slice s0 l0 c0, .slice s1 l1 c1, .slice s2 l2 c2, .slice s3 l3 c3, .slice s4 l4 c4, .slice s5 l5 c5, .slice (some ⟨g, 0, none⟩) n n] ∧ MB B n W g
  | 9, W, v => ∃ b g, v = .pointer (some ⟨b, 0, none⟩) ∧ B ≤ b ∧ b ≠ g ∧ At W b 0 [.slice s0 l0 c0, .slice s1 l1 c1, .slice s2 l2 c2, .slice s3 l3 c3, .slice s4 l4 c4, .slice s5 l5 c5, .slice (some ⟨g, 0, none⟩) n n] ∧ MB B n W g
  | 10, W, v => ∃ b g, v = .pointer (some ⟨b, 0, none⟩) ∧ B ≤ b ∧ b ≠ g ∧ At W b 0 [.slice s0 l0 c0, .slice s1 l1 c1, .slice s2 l2 c2, .slice s3 l3 c3, .slice s4 l4 c4, .slice s5 l5 c5, .slice (some ⟨g, 0, none⟩) n n] ∧ MB B n W g
  | _, _, _ => True
theorem FQ1.lasts (B pb FA n : Nat) (s0 s1 s2 s3 s4 s5 : Option Addr) (l0 l1 l2 l3 l4 l5 c0 c1 c2 c3 c4 c5 : Nat) : Lasts (FQ1 B pb FA n s0 s1 s2 s3 s4 s5 l0 l1 l2 l3 l4 l5 c0 c1 c2 c3 c4 c5) := by
  intro k w w' v hb h
  match k, h with
  | 0, h => exact h
  | 1, h => exact h
  | 2, h => exact h
  | 3, h => exact h
  | 4, h => exact h
  | 5, h => exact h
  | 6, h => exact h
  | 7, h => obtain ⟨g, e, m⟩ := h; exact ⟨g, e, m.later hb⟩
  | 8, h => obtain ⟨g, e, m⟩ := h; exact ⟨g, e, m.later hb⟩
  | 9, h => obtain ⟨b, g, e, h1, h2, h3, m⟩ := h; exact ⟨b, g, e, h1, h2, fun j y hj => cell_later hb (h3 j y hj), m.later hb⟩
  | 10, h => obtain ⟨b, g, e, h1, h2, h3, m⟩ := h; exact ⟨b, g, e, h1, h2, fun j y hj => cell_later hb (h3 j y hj), m.later hb⟩
  | (k + 11), h => trivial
def FQ5 (b g n k M q : Nat) (y : Bool) : Nat → Value → Prop
  | 0, v => v = .pointer (some ⟨b, 0, none⟩)
  | 1, v => v = .pointer (some ⟨b, 0, none⟩)
  | 2, v => v = .pointer (some ⟨b, 6, none⟩)
  | 3, v => v = .slice (some ⟨g, 0, none⟩) n n
  | 4, v => v = .pointer (some ⟨b, 0, none⟩)
  | 5, v => v = .int .i64 (k : Int)
  | 6, v => v = .int .i64 (M : Int)
  | 7, v => v = .pointer (some ⟨q, 2, none⟩)
  | 8, v => v = .int .i64 (b2i y)
  | 9, v => v = .pointer (some ⟨g, M, none⟩)
  | 10, v => True
  | _, _ => True
set_option maxHeartbeats 16000000 in
theorem iNewRun (s0 s1 s2 s3 s4 s5 : Option Addr) (l0 l1 l2 l3 l4 l5 c0 c1 c2 c3 c4 c5 : Nat) (ls : List MapReg) (W0 : World) (hr : RS 4 RMapReg W0 0 ls (.slice s2 l2 c2)) (hl0 : l0 ≤ 1048576) (hl2 : ls.length ≤ 1048576) (hl3 : l3 ≤ 1048576) (hin : ∀ x ∈ ls, x.init = 0 ∨ x.init = 1) :
    Calls Tryz.prog 35 #[.agg #[.slice s0 l0 c0, .slice s1 l1 c1, .slice s2 l2 c2, .slice s3 l3 c3, .slice s4 l4 c4, .slice s5 l5 c5]] W0 fun e w' => ∃ b g, e = .returned (.pointer (some ⟨b, 0, none⟩)) ∧ Ob W0.heap.size w' b g [.slice s0 l0 c0, .slice s1 l1 c1, .slice s2 l2 c2, .slice s3 l3 c3, .slice s4 l4 c4, .slice s5 l5 c5] (List.replicate (l0) false ++ (ls.map (fun l : MapReg => l.init == 1) ++ List.replicate l3 false)) ∧ Below W0.heap.size W0 w' := by
  obtain ⟨hlen, HCS⟩ : l2 = ls.length ∧ Hid (∀ (i : Nat) x, ls[i]? = some x → ∃ b o, s2 = some ⟨b, o, none⟩ ∧ W0.cell? ⟨b, o + i * 4, none⟩ = some (.string x.name) ∧ W0.cell? ⟨b, o + i * 4 + 1, none⟩ = some (.int .i64 x.src) ∧ W0.cell? ⟨b, o + i * 4 + 2, none⟩ = some (.int .i64 x.init) ∧ W0.cell? ⟨b, o + i * 4 + 3, none⟩ = some (.int .i64 x.clock)) := by
    refine ⟨?_, hide ?_⟩
    · obtain ⟨a, c, hv⟩ := hr.slice
      injection hv
    · intro i x hx
      rcases hr.open with ⟨rfl, _⟩ | ⟨b, o, c', hv, _, _, _, he⟩
      · simp at hx
      · injection hv with e1 e2 e3
        obtain ⟨u, hu, hat, hux, hs⟩ := he i x hx
        subst hux
        exact ⟨b, o, e1, by simpa using hat.get (j := 0) rfl, by simpa using hat.get (j := 1) rfl, by simpa using hat.get (j := 2) rfl, by simpa using hat.get (j := 3) rfl⟩
  clear hr
  subst hlen
  have HIN := hide hin
  clear hin
  obtain ⟨Wb, hWb⟩ : ∃ Wb, Wb = W0.alloc (.cells #[.slice s0 l0 c0, .slice s1 l1 c1, .slice s2 ls.length c2, .slice s3 l3 c3, .slice s4 l4 c4, .slice s5 l5 c5] 88) := ⟨_, rfl⟩
  have hbB : Below W0.heap.size W0 Wb := by rw [hWb]; exact bal (brf W0) _
  have HC1 : Hid (∀ V, Below Wb.heap.size Wb V → V.cell? ⟨W0.heap.size, 0, none⟩ = some (.slice s0 l0 c0) ∧ V.cell? ⟨W0.heap.size, 1, none⟩ = some (.slice s1 l1 c1) ∧ V.cell? ⟨W0.heap.size, 2, none⟩ = some (.slice s2 ls.length c2) ∧ V.cell? ⟨W0.heap.size, 3, none⟩ = some (.slice s3 l3 c3) ∧ V.cell? ⟨W0.heap.size, 4, none⟩ = some (.slice s4 l4 c4) ∧ V.cell? ⟨W0.heap.size, 5, none⟩ = some (.slice s5 l5 c5)) := hide (fun V hb => by
    refine ⟨?_, ?_, ?_, ?_, ?_, ?_⟩ <;> exact cell_later hb (by rw [hWb, World.cell?_alloc_new]; rfl))
  obtain ⟨FA, hFA⟩ : ∃ FA : Nat, FA = l0 + ls.length := ⟨_, rfl⟩
  obtain ⟨n, hn⟩ : ∃ n : Nat, n = FA + l3 := ⟨_, rfl⟩
  have HFI : Hid (∀ V, Calls Tryz.prog 64 #[.agg #[.slice s0 l0 c0, .slice s1 l1 c1, .slice s2 ls.length c2, .slice s3 l3 c3, .slice s4 l4 c4, .slice s5 l5 c5]] V fun e w' => e = .returned (.int .i64 (FA : Int)) ∧ Below V.heap.size V w') := hide (fun V => by rw [hFA]; exact iFirst s0 s2 l0 ls.length c0 c2 _ _ _ _ V hl0 hl2)
  obtain ⟨Mk, hMs, hMf, hmk⟩ := make_zeros n (by omega)
  have HMK := hide hmk
  have HMS := hide hMs
  have HMF := hide hMf
  have hw : IntKind.i64.wrap ((FA : Int) + (l3 : Int)) = (n : Int) := by rw [IntKind.wrap_i64]; omega
  have HWR := hide hw
  have HWb := hide hWb
  have HBB := hide hbB
  have hsz : W0.heap.size ≤ Wb.heap.size := hbB.size
  have HSZ := hide hsz
  have HFA := hide hFA
  have HNN := hide hn
  clear hmk hMs hMf hw hWb hbB hsz hFA hn
  go_enter Tryz.func35, Tryz.ntmps35
  go_wp2_with fail
  rw [← unhide HWb]
  refine wp_plan (GW (FQ1 W0.heap.size W0.heap.size FA n s0 s1 s2 s3 s4 s5 l0 l1 ls.length l3 l4 l5 c0 c1 c2 c3 c4 c5)) (JB Wb) (by kernel_rfl) 36 (by kernel_rfl) (by kernel_rfl) ?hj ?hs ?hf
  case hj => exact bdr (brf Wb)
  case hs =>
    refine ⟨?_, ?_, ?_, ?_, ?_, ?_, ?_, ?_, ?_, ?_, ?_, trivial⟩
    · exact sl_val rfl (fun l a V hp ha => ⟨.agg #[.slice s0 l0 c0, .slice s1 l1 c1, .slice s2 ls.length c2, .slice s3 l3 c3, .slice s4 l4 c4, .slice s5 l5 c5], by
        have x1 := (ev_form a 1).trans (old hp 1 (v := .pointer (some ⟨W0.heap.size, 0, none⟩)) (by kernel_rfl) (by kernel_rfl))
        obtain ⟨q0, q1, q2, q3, q4, q5⟩ := unhide HC1 V hp.j
        go_simp, rfl⟩)
    · exact sl_val rfl (fun l a V hp ha => ⟨.agg #[.slice s0 l0 c0, .slice s1 l1 c1, .slice s2 ls.length c2, .slice s3 l3 c3, .slice s4 l4 c4, .slice s5 l5 c5], by
        have x1 := (ev_form a 1).trans (old hp 1 (v := .pointer (some ⟨W0.heap.size, 0, none⟩)) (by kernel_rfl) (by kernel_rfl))
        obtain ⟨q0, q1, q2, q3, q4, q5⟩ := unhide HC1 V hp.j
        go_simp, rfl⟩)
    · exact sl_call (f := 64) (FQ1.lasts _ _ _ _ _ _ _ _ _ _ _ _ _ _ _ _ _ _ _ _ _ _) rfl (fun l a V hp ha => ⟨#[.agg #[.slice s0 l0 c0, .slice s1 l1 c1, .slice s2 ls.length c2, .slice s3 l3 c3, .slice s4 l4 c4, .slice s5 l5 c5]], by
        have x7 := (ev_form a 7).trans (show a.eval (.tmp 7) = .agg #[.slice s0 l0 c0, .slice s1 l1 c1, .slice s2 ls.length c2, .slice s3 l3 c3, .slice s4 l4 c4, .slice s5 l5 c5] from kn hp ha 7 1 (by kernel_rfl) (by kernel_rfl))
        go_simp, (unhide HFI V).mono (by rintro e V1 ⟨rfl, hb⟩; exact ⟨_, rfl, rfl, hb⟩)⟩)
    · exact sl_val rfl (fun l a V hp ha => ⟨.pointer (some ⟨W0.heap.size, 3, none⟩), by
        have x1 := (ev_form a 1).trans (old hp 1 (v := .pointer (some ⟨W0.heap.size, 0, none⟩)) (by kernel_rfl) (by kernel_rfl))
        go_simp, rfl⟩)
    · exact sl_val rfl (fun l a V hp ha => ⟨.slice s3 l3 c3, by
        have x9 := (ev_form a 9).trans (show a.eval (.tmp 9) = .pointer (some ⟨W0.heap.size, 3, none⟩) from kn hp ha 9 3 (by kernel_rfl) (by kernel_rfl))
        obtain ⟨q0, q1, q2, q3, q4, q5⟩ := unhide HC1 V hp.j
        go_simp, rfl⟩)
    · exact sl_val rfl (fun l a V hp ha => ⟨.int .i64 (l3 : Int), by
        have x10 := (ev_form a 10).trans (show a.eval (.tmp 10) = .slice s3 l3 c3 from kn hp ha 10 4 (by kernel_rfl) (by kernel_rfl))
        go_simp, rfl⟩)
    · exact sl_val rfl (fun l a V hp ha => ⟨.int .i64 (n : Int), by
        have x8 := (ev_form a 8).trans (show a.eval (.tmp 8) = .int .i64 (FA : Int) from kn hp ha 8 2 (by kernel_rfl) (by kernel_rfl))
        have x11 := (ev_form a 11).trans (show a.eval (.tmp 11) = .int .i64 (l3 : Int) from kn hp ha 11 5 (by kernel_rfl) (by kernel_rfl))
        have hw := unhide HWR
        go_simp, rfl⟩)
    · exact sl_new (FQ1.lasts _ _ _ _ _ _ _ _ _ _ _ _ _ _ _ _ _ _ _ _ _ _) rfl (fun l a V hp ha => ⟨.slice (some ⟨V.heap.size, 0, none⟩) n n, .cells Mk 3, by
        have x12 := (ev_form a 12).trans (show a.eval (.tmp 12) = .int .i64 (n : Int) from kn hp ha 12 6 (by kernel_rfl) (by kernel_rfl))
        have hmk := unhide HMK V
        go_simp, V.heap.size, rfl, Nat.le_trans (unhide HSZ) hp.j.size, by simp, fun i hi => by
          refine ⟨by rw [World.cell?_alloc_new]; exact unhide HMF i hi, ?_⟩
          exact (TP_made V Mk 3 n (unhide HMS) i hi).2⟩)
    · refine sl_val rfl (fun l a V hp ha => ?_)
      obtain ⟨g, hv, hm⟩ := kn hp ha 13 7 (by kernel_rfl) (by kernel_rfl)
      have x6 := (ev_form a 6).trans (show a.eval (.tmp 6) = .agg #[.slice s0 l0 c0, .slice s1 l1 c1, .slice s2 ls.length c2, .slice s3 l3 c3, .slice s4 l4 c4, .slice s5 l5 c5] from kn hp ha 6 0 (by kernel_rfl) (by kernel_rfl))
      have x13 := (ev_form a 13).trans hv
      exact ⟨.agg #[.slice s0 l0 c0, .slice s1 l1 c1, .slice s2 ls.length c2, .slice s3 l3 c3, .slice s4 l4 c4, .slice s5 l5 c5, .slice (some ⟨g, 0, none⟩) n n], by clear hm hv; go_simp, g, rfl, hm⟩
    · refine sl_new (FQ1.lasts _ _ _ _ _ _ _ _ _ _ _ _ _ _ _ _ _ _ _ _ _ _) rfl (fun l a V hp ha => ?_)
      obtain ⟨g, hv, hm⟩ := kn hp ha 14 8 (by kernel_rfl) (by kernel_rfl)
      have x14 := (ev_form a 14).trans hv
      refine ⟨.pointer (some ⟨V.heap.size, 0, none⟩), .cells #[.slice s0 l0 c0, .slice s1 l1 c1, .slice s2 ls.length c2, .slice s3 l3 c3, .slice s4 l4 c4, .slice s5 l5 c5, .slice (some ⟨g, 0, none⟩) n n] 125, by clear hm hv; go_simp, V.heap.size, g, rfl, Nat.le_trans (unhide HSZ) hp.j.size, by have := hm.2.1; omega, fun j y hj => ?_, hm.later (bal (brf V) _)⟩
      rw [World.cell?_alloc_new]
      simpa using hj
    · refine sl_val rfl (fun l a V hp ha => ?_)
      obtain ⟨b, g, hv, hh⟩ := kn hp ha 15 9 (by kernel_rfl) (by kernel_rfl)
      have x15 := (ev_form a 15).trans hv
      exact ⟨.pointer (some ⟨b, 0, none⟩), by clear hh hv; go_simp, b, g, rfl, hh⟩
  case hf =>
    intro l a V hp hall
    obtain ⟨b, g, hv3, hb0, hbg, hat, hm⟩ := hp.good 10 _ 3 rfl rfl (hall 10 (by decide))
    have HBV := hide hp.j
    obtain ⟨us, rfl, hus⟩ := putAll_of [6, 7, 8, 9, 10, 11, 12, 13, 14, 15, 3] hp.nt hp.df (fun t ht => hp.keep t (dstIn (by kernel_rfl) ht))
    have hu3 : us 3 = .pointer (some ⟨b, 0, none⟩) := (hus 3).trans hv3
    clear hp hall hv3 hus
    simp only [putAll, List.foldl, Act.put, List.setIfInBounds_toArray, List.set_cons_zero, List.set_cons_succ, hu3]
    clear hu3
    generalize us 6 = y6 at *
    generalize us 7 = y7 at *
    generalize us 8 = y8 at *
    generalize us 9 = y9 at *
    generalize us 10 = y10 at *
    generalize us 11 = y11 at *
    generalize us 12 = y12 at *
    generalize us 13 = y13 at *
    generalize us 14 = y14 at *
    generalize us 15 = y15 at *
    obtain ⟨q0, q1, q2, q3, q4, q5⟩ := unhide HC1 V (unhide HBV)
    have hO : Ob W0.heap.size V b g [.slice s0 l0 c0, .slice s1 l1 c1, .slice s2 ls.length c2, .slice s3 l3 c3, .slice s4 l4 c4, .slice s5 l5 c5] (List.replicate (l0) false ++ (List.replicate ls.length false ++ List.replicate l3 false)) := by
      have hL : (List.replicate (l0) false ++ (List.replicate ls.length false ++ List.replicate l3 false)).length = n := by simp; have h1 := unhide HNN; have h2 := unhide HFA; omega
      refine ⟨hb0, hm.1, hbg, hm.2.1, by rw [hL]; exact hat, fun i x hx => ?_⟩
      have hi : i < n := by rw [← hL]; exact (List.getElem?_eq_some_iff.1 hx).1
      have hxe : x = false := by
        have := List.mem_of_getElem? hx
        rcases List.mem_append.1 this with h | h
        · exact List.eq_of_mem_replicate h
        · rcases List.mem_append.1 h with h | h <;> exact List.eq_of_mem_replicate h
      rw [hxe]
      exact hm.2.2 i hi
    have HO0 := hide hO
    have HB2 := hide (btr (unhide HBB) (unhide HBV))
    clear hO hat hm hb0 hbg q0 q1 q3 q4 q5
    go_wp2_with fail
    clear q2
    go_loopw [19] (fun i wr => ∃ k : Nat, k ≤ ls.length ∧ i = .int .i64 k ∧ Ob W0.heap.size wr b g [.slice s0 l0 c0, .slice s1 l1 c1, .slice s2 ls.length c2, .slice s3 l3 c3, .slice s4 l4 c4, .slice s5 l5 c5] (List.replicate (l0) false ++ ((ls.take k).map (fun l : MapReg => l.init == 1) ++ (List.replicate (ls.length - k) false ++ List.replicate l3 false))) ∧ Below W0.heap.size W0 wr) (fun i wr => ls.length - (intOf i).toNat)
    case atStart => exact ⟨0, Nat.zero_le _, rfl, by simpa using unhide HO0, unhide HB2⟩
    case round =>
      obtain ⟨k, hk, rfl, ho, hb⟩ := hrel
      by_cases hlt : k < ls.length
      · have hx : ls[k]? = some ls[k] := List.getElem?_eq_getElem hlt
        have hmem := List.getElem_mem hlt
        generalize ls[k] = x at hx hmem
        have hzi : x.init = b2i (x.init == 1) := by rcases unhide HIN x hmem with e | e <;> rw [e] <;> rfl
        obtain ⟨bb, oo, rfl, hc0, hc1, hc2, hc3⟩ := unhide HCS k x hx
        have k0 := cell_later hb hc0
        have k1 := cell_later hb hc1
        have k2 := cell_later hb hc2
        have k3 := cell_later hb hc3
        rw [hzi] at k2
        have hlen : (List.replicate (l0) false ++ ((ls.take k).map (fun l : MapReg => l.init == 1) ++ (List.replicate (ls.length - k) false ++ List.replicate l3 false))).length = n := by simp; have h1 := unhide HNN; have h2 := unhide HFA; omega
        obtain ⟨B1, hW1⟩ : ∃ B1, B1 = wr.alloc (.cells #[.string x.name, .int .i64 x.src, .int .i64 (b2i (x.init == 1)), .int .i64 x.clock] 127) := ⟨_, rfl⟩
        have hbB : Below wr.heap.size wr B1 := by rw [hW1]; exact bal (brf wr) _
        have hoB := ho.later hbB
        obtain ⟨_, _, _, _, _, _, q6⟩ := hoB.cells
        rw [hlen] at q6
        have H6 := hide q6
        have HI := hide (show B1.cell? ⟨wr.heap.size, 2, none⟩ = some (.int .i64 (b2i (x.init == 1))) by rw [hW1, World.cell?_alloc_new]; rfl)
        have hMn : l0 + k < n := by have h1 := unhide HNN; have h2 := unhide HFA; omega
        have HY : Hid (∃ y, B1.cell? ⟨g, l0 + k, none⟩ = some (.int .i64 (b2i y)) ∧ B1.frozen? ⟨g, l0 + k, none⟩ = false) := hide (by
          have hl3 : l0 + k < (List.replicate (l0) false ++ ((ls.take k).map (fun l : MapReg => l.init == 1) ++ (List.replicate (ls.length - k) false ++ List.replicate l3 false))).length := by rw [hlen]; exact hMn
          exact ⟨_, hoB.vals (l0 + k) _ (List.getElem?_eq_getElem hl3)⟩)
        have HL : Hid (∀ V, Below B1.heap.size B1 V → Calls Tryz.prog 65 #[.pointer (some ⟨b, 0, none⟩), .int .i64 (k : Int)] V fun e w' => e = .returned (.int .i64 ((l0 + k : Nat) : Int)) ∧ Below V.heap.size V w') := hide (fun V hV => by
          refine (iReg (hoB.later hV) k hl0 (by omega)).mono ?_
          rintro e w' ⟨rfl, rfl⟩
          exact ⟨rfl, brf _⟩)
        have HS1 : Hid ((List.replicate (l0) false ++ ((ls.take k).map (fun l : MapReg => l.init == 1) ++ (List.replicate (ls.length - k) false ++ List.replicate l3 false))).set (l0 + k) (x.init == 1) = List.replicate (l0) false ++ ((ls.take (k + 1)).map (fun l : MapReg => l.init == 1) ++ (List.replicate (ls.length - (k + 1)) false ++ List.replicate l3 false))) := hide (by
          have hl2 : ((ls.take k).map (fun l : MapReg => l.init == 1)).length = k := by rw [List.length_map, List.length_take]; omega
          rw [List.set_append_right _ _ (by simp), List.set_append_right _ _ (by simp; omega), hl2, List.length_replicate, show l0 + k - (l0) - k = 0 by omega, show ls.length - k = (ls.length - (k + 1)) + 1 by omega, List.replicate_succ, List.cons_append, List.set_cons_zero, List.take_add_one, hx, List.map_append]
          simp)
        have HO := hide hoB
        have HBw := hide (btr hb hbB)
        have HW1 := hide hW1
        have HG := hide ho.hg
        have i1 : ((l0 + k : Nat) : Int) < (n : Int) := by omega
        clear hzi hmem ho hb hc0 hc1 hc2 hc3 HCS hx hlen hbB hoB q6 hW1 hMn HO0 HB2
        generalize x.name = nm at *
        generalize x.src = zn at *
        generalize (x.init == 1) = y at *
        generalize x.clock = zc at *
        generalize l0 + k = M at *
        have i0 : (0 : Int) ≤ (M : Int) := by omega
        go_wp2_with fail
        rw [← unhide HW1]
        clear k0 k1 k2 k3
        refine wp_plan (GF (FQ5 b g n k M wr.heap.size y)) (JE B1 10 (fun V => ∃ V0, Below B1.heap.size B1 V0 ∧ V = V0.setCell ⟨g, M, none⟩ (.int .i64 (b2i y)))) (by kernel_rfl) 36 (by kernel_rfl) (by kernel_rfl) ?hj ?hs ?hf
        case hj => exact JE.start (bdr (brf B1))
        case hs =>
          refine ⟨?_, ?_, ?_, ?_, ?_, ?_, ?_, ?_, ?_, ?_, ?_, trivial⟩
          · exact se_val (by decide) (by kernel_rfl) rfl (fun l a V hp hB ha => ⟨.pointer (some ⟨b, 0, none⟩), by
              have x3 := (ev_form a 3).trans (old hp 3 (v := .pointer (some ⟨b, 0, none⟩)) (by kernel_rfl) (by kernel_rfl))
              go_simp, rfl⟩)
          · exact se_val (by decide) (by kernel_rfl) rfl (fun l a V hp hB ha => ⟨.pointer (some ⟨b, 0, none⟩), by
              have x24 := (ev_form a 24).trans (show a.eval (.tmp 24) = .pointer (some ⟨b, 0, none⟩) from kn hp ha 24 0 (by kernel_rfl) (by kernel_rfl))
              go_simp, rfl⟩)
          · exact se_val (by decide) (by kernel_rfl) rfl (fun l a V hp hB ha => ⟨.pointer (some ⟨b, 6, none⟩), by
              have x25 := (ev_form a 25).trans (show a.eval (.tmp 25) = .pointer (some ⟨b, 0, none⟩) from kn hp ha 25 1 (by kernel_rfl) (by kernel_rfl))
              go_simp, rfl⟩)
          · exact se_val (by decide) (by kernel_rfl) rfl (fun l a V hp hB ha => ⟨.slice (some ⟨g, 0, none⟩) n n, by
              have x26 := (ev_form a 26).trans (show a.eval (.tmp 26) = .pointer (some ⟨b, 6, none⟩) from kn hp ha 26 2 (by kernel_rfl) (by kernel_rfl))
              have m6 := cell_later hB (unhide H6)
              go_simp, rfl⟩)
          · exact se_val (by decide) (by kernel_rfl) rfl (fun l a V hp hB ha => ⟨.pointer (some ⟨b, 0, none⟩), by
              have x3 := (ev_form a 3).trans (old hp 3 (v := .pointer (some ⟨b, 0, none⟩)) (by kernel_rfl) (by kernel_rfl))
              go_simp, rfl⟩)
          · exact se_val (by decide) (by kernel_rfl) rfl (fun l a V hp hB ha => ⟨.int .i64 (k : Int), by
              have x4 := (ev_form a 4).trans (old hp 4 (v := .int .i64 (k : Int)) (by kernel_rfl) (by kernel_rfl))
              go_simp, rfl⟩)
          · exact se_call (f := 65) (by decide) (by kernel_rfl) rfl (fun l a V hp hB ha => ⟨#[.pointer (some ⟨b, 0, none⟩), .int .i64 (k : Int)], by
              have x28 := (ev_form a 28).trans (show a.eval (.tmp 28) = .pointer (some ⟨b, 0, none⟩) from kn hp ha 28 4 (by kernel_rfl) (by kernel_rfl))
              have x29 := (ev_form a 29).trans (show a.eval (.tmp 29) = .int .i64 (k : Int) from kn hp ha 29 5 (by kernel_rfl) (by kernel_rfl))
              go_simp, (unhide HL V hB).mono (by rintro e V1 ⟨rfl, hb⟩; exact ⟨_, rfl, rfl, hb⟩)⟩)
          · exact se_val (by decide) (by kernel_rfl) rfl (fun l a V hp hB ha => ⟨.pointer (some ⟨wr.heap.size, 2, none⟩), by
              have x5 := (ev_form a 5).trans (old hp 5 (v := .pointer (some ⟨wr.heap.size, 0, none⟩)) (by kernel_rfl) (by kernel_rfl))
              go_simp, rfl⟩)
          · exact se_val (by decide) (by kernel_rfl) rfl (fun l a V hp hB ha => ⟨.int .i64 (b2i y), by
              have x31 := (ev_form a 31).trans (show a.eval (.tmp 31) = .pointer (some ⟨wr.heap.size, 2, none⟩) from kn hp ha 31 7 (by kernel_rfl) (by kernel_rfl))
              have mi := cell_later hB (unhide HI)
              go_simp, rfl⟩)
          · exact se_val (by decide) (by kernel_rfl) rfl (fun l a V hp hB ha => ⟨.pointer (some ⟨g, M, none⟩), by
              have x27 := (ev_form a 27).trans (show a.eval (.tmp 27) = .slice (some ⟨g, 0, none⟩) n n from kn hp ha 27 3 (by kernel_rfl) (by kernel_rfl))
              have x30 := (ev_form a 30).trans (show a.eval (.tmp 30) = .int .i64 (M : Int) from kn hp ha 30 6 (by kernel_rfl) (by kernel_rfl))
              go_simp, rfl⟩)
          · refine se_last rfl (fun l a V hp hB ha => ?_) trivial
            have x33 := (ev_form a 33).trans (show a.eval (.tmp 33) = .pointer (some ⟨g, M, none⟩) from kn hp ha 33 9 (by kernel_rfl) (by kernel_rfl))
            have x32 := (ev_form a 32).trans (show a.eval (.tmp 32) = .int .i64 (b2i y) from kn hp ha 32 8 (by kernel_rfl) (by kernel_rfl))
            obtain ⟨y', hy, hfz⟩ := unhide HY
            have m1 := cell_later hB hy
            have m2 := frozen_later hB hy hfz
            exact ⟨V.setCell ⟨g, M, none⟩ (.int .i64 (b2i y)), by go_simp, ⟨V, hB, rfl⟩⟩
        case hf =>
          intro l a V hp hall
          obtain ⟨V0, hV0, hV⟩ := hp.j.2 (hall 10 (by decide))
          obtain ⟨us, rfl, hus⟩ := putAll_of [24, 25, 26, 27, 28, 29, 30, 31, 32, 33] hp.nt hp.df (fun t ht => hp.keep t (dstIn (by kernel_rfl) ht))
          clear hp hall hus
          simp only [putAll, List.foldl, Act.put, List.setIfInBounds_toArray, List.set_cons_zero, List.set_cons_succ]
          generalize us 24 = z24 at *
          generalize us 25 = z25 at *
          generalize us 26 = z26 at *
          generalize us 27 = z27 at *
          generalize us 28 = z28 at *
          generalize us 29 = z29 at *
          generalize us 30 = z30 at *
          generalize us 31 = z31 at *
          generalize us 32 = z32 at *
          generalize us 33 = z33 at *
          have HO2 := hide (((unhide HO).later hV0).set M y)
          have HF2 := hide (bst (btr (unhide HBw) hV0) (a := ⟨g, M, none⟩) (unhide HG) (.int .i64 (b2i y)))
          rw [← hV] at HO2 HF2
          clear hV hV0 HO
          go_wp2_with fail
          go_roundw
          case rel => exact ⟨k + 1, by omega, by go_num, by rw [← unhide HS1]; exact unhide HO2, unhide HF2⟩
          case measure => simp [intOf]; omega
      · obtain rfl : k = ls.length := by omega
        rw [List.take_of_length_le (Nat.le_refl _), Nat.sub_self] at ho
        have HO := hide ho
        have HF := hide hb
        clear ho hb HCS
        go_wp2
        exact bodyPost_ret (v := .pointer (some ⟨b, 0, none⟩)) (by simp [results, Tryz.results35, go_sem]) rfl ⟨b, g, rfl, by simpa using unhide HO, unhide HF⟩
end Go.Proofs.YtdmmbhemmbgcpabGreat
