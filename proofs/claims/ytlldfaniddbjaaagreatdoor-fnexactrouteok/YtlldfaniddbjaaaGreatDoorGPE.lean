/- blocksFit. -/
import Derived.Test.YtlldfaniddbjaaaGreatDoorGPC
import Derived.Test.YtlldfaniddbjaaaGreatDoorGRW2
import Derived.Test.YtlldfaniddbjaaaGreatDoorGMX
namespace Go.Proofs.YtlldfaniddbjaaaGreatDoor
open Go Go.RowKit Gs
set_option linter.unusedVariables false
set_option linter.unusedSimpArgs false
set_option maxRecDepth 100000
def FBK (s0 s1 s2 s3 s4 : Option Addr) (l0 l1 l2 l3 l4 c0 c1 c2 c3 c4 : Nat) (N : Nat) (b : Block) (ai : Option Addr) (m ci : Nat) (p1 p2 : Bool) : Nat → Value → Prop
  | 0, v => v = .agg #[.string b.name, .slice ai m ci, .int .i64 b.table, .bool b.reg, .int .i64 b.init, .int .i64 b.clock]
  | 1, v => v = .agg #[.slice ai m ci, .int .i64 b.table]
  | 2, v => v = .agg #[.slice s0 l0 c0, .slice s1 l1 c1, .slice s2 l2 c2, .slice s3 l3 c3, .slice s4 l4 c4]
  | 3, v => v = .int .i64 (N : Int)
  | 4, v => v = .bool p1
  | 5, v => v = .bool (!p1)
  | 6, v => v = .bool (!p1)
  | 7, v => (!p1) = false → v = .agg #[.slice s0 l0 c0, .slice s1 l1 c1, .slice s2 l2 c2, .slice s3 l3 c3, .slice s4 l4 c4]
  | 8, v => (!p1) = false → v = .agg #[.string b.name, .slice ai m ci, .int .i64 b.table, .bool b.reg, .int .i64 b.init, .int .i64 b.clock]
  | 9, v => (!p1) = false → v = .bool p2
  | 10, v => (!p1) = false → v = .bool (!p2)
  | 11, v => v = .bool (!p1 || !p2)
  | _, _ => True
set_option maxHeartbeats 16000000 in
theorem iBlocksFit (s0 s1 s2 s3 s4 : Option Addr) (l0 l1 l2 l3 l4 c0 c1 c2 c3 c4 : Nat) (bs : List Block) (w : World) (hl0 : l0 ≤ 1048576) (hl1 : l1 ≤ 1048576) (hlb : bs.length ≤ 1048576) (hin : ∀ x ∈ bs, x.inp.length ≤ 1048576) (h2 : RS 6 RBlock w 0 bs (.slice s2 l2 c2)) :
    Calls Tryz.prog 84 #[.agg #[.slice s0 l0 c0, .slice s1 l1 c1, .slice s2 l2 c2, .slice s3 l3 c3, .slice s4 l4 c4]] w fun e w' => e = .returned (.bool (blocksB l0 bs l1)) ∧ Below w.heap.size w w' := by
  have HC1 : Hid (∀ V, Below (w.alloc (.cells #[.slice s0 l0 c0, .slice s1 l1 c1, .slice s2 l2 c2, .slice s3 l3 c3, .slice s4 l4 c4] 37)).heap.size (w.alloc (.cells #[.slice s0 l0 c0, .slice s1 l1 c1, .slice s2 l2 c2, .slice s3 l3 c3, .slice s4 l4 c4] 37)) V → V.cell? ⟨w.heap.size, 0, none⟩ = some (.slice s0 l0 c0) ∧ V.cell? ⟨w.heap.size, 1, none⟩ = some (.slice s1 l1 c1) ∧ V.cell? ⟨w.heap.size, 2, none⟩ = some (.slice s2 l2 c2) ∧ V.cell? ⟨w.heap.size, 3, none⟩ = some (.slice s3 l3 c3) ∧ V.cell? ⟨w.heap.size, 4, none⟩ = some (.slice s4 l4 c4)) := hide (fun V hb => ⟨cell_later hb (by rw [World.cell?_alloc_new]; rfl), cell_later hb (by rw [World.cell?_alloc_new]; rfl), cell_later hb (by rw [World.cell?_alloc_new]; rfl), cell_later hb (by rw [World.cell?_alloc_new]; rfl), cell_later hb (by rw [World.cell?_alloc_new]; rfl)⟩)
  have hln : l2 = bs.length := by
    obtain ⟨a, c, hv, _⟩ := h2
    injection hv with e1 e2 e3
  have HH2 := hide (fun (V : World) (hb : Below w.heap.size w V) => h2.later RBlock.keeps hb)
  have HCS : Hid (∀ (k : Nat) b, bs[k]? = some b → ∃ b2 o2 ai ci, s2 = some ⟨b2, o2, none⟩ ∧ l2 ≤ c2 ∧ b.name.size ≤ maxLen ∧ RS 1 RInt w 0 b.inp (.slice ai b.inp.length ci) ∧ (∀ j y, [.string b.name, .slice ai b.inp.length ci, .int .i64 b.table, .bool b.reg, .int .i64 b.init, .int .i64 b.clock][j]? = some y → w.cell? ⟨b2, o2 + k * 6 + j, none⟩ = some y)) := hide (fun k b hk => by
    rcases h2.open with ⟨rfl, _⟩ | ⟨b2, o2, c2', hv, hcc, hnm, _, hcs⟩
    · simp at hk
    injection hv with e1 e2 e3
    obtain ⟨u, hul, hat, v1, hus, hsz, hrs⟩ := hcs k b hk
    obtain ⟨ai, ci, rfl⟩ := hrs.slice
    subst hus
    exact ⟨b2, o2, ai, ci, e1, by omega, hsz, hrs, fun j y hj => hat j y hj⟩)
  clear h2
  obtain ⟨W, hW⟩ : ∃ W, W = w.alloc (.cells #[.slice s0 l0 c0, .slice s1 l1 c1, .slice s2 l2 c2, .slice s3 l3 c3, .slice s4 l4 c4] 37) := ⟨_, rfl⟩
  have HW : Hid (Below w.heap.size w W) := hide (by rw [hW]; exact bal (brf w) _)
  rw [← hW] at HC1
  obtain ⟨N, hN⟩ : ∃ N : Nat, l0 + l2 = N := ⟨_, rfl⟩
  have HSO : Hid (∀ V : World, Calls Tryz.prog 33 #[.agg #[.slice s0 l0 c0, .slice s1 l1 c1, .slice s2 l2 c2, .slice s3 l3 c3, .slice s4 l4 c4]] V fun e w' => e = .returned (.int .i64 (N : Int)) ∧ Below V.heap.size V w') := hide (fun V => by
    rw [← hN]
    exact iSources s0 s2 l0 l2 c0 c2 _ _ _ V hl0 (by omega))
  have HNb : Hid (l0 + bs.length = N) := hide (by omega)
  have HR : Hid (blocksB l0 bs l1 = upB (blkAt l0 bs l1) l2) := hide (by unfold blocksB; rw [hln])
  have HLN := hide hln
  have hl2 : l2 ≤ 1048576 := by omega
  have HIN := hide hin
  have HLB := hide hlb
  generalize blocksB l0 bs l1 = RR at *
  clear hin hN hln hlb
  have HW' := hide hW
  go_enter Tryz.func84, Tryz.ntmps84
  go_wp2
  rw [← unhide HW']
  clear hW
  go_loopw [8] (fun i wr => ∃ k : Nat, k ≤ l2 ∧ i = .int .i64 k ∧ upB (blkAt l0 bs l1) k = true ∧ Below W.heap.size W wr) (fun i wr => l2 - (intOf i).toNat)
  case atStart => exact ⟨0, Nat.zero_le _, rfl, rfl, brf _⟩
  case round =>
    obtain ⟨k, hk, rfl, hall, hbw⟩ := hrel
    have HA := hide hall
    have HB0 := hide hbw
    clear hall
    by_cases hlt : k < l2
    · have hkl : k < bs.length := by have := unhide HLN; omega
      have hx : bs[k]? = some bs[k] := List.getElem?_eq_getElem hkl
      have hmem : bs[k] ∈ bs := List.getElem_mem hkl
      generalize bs[k] = b at hx hmem
      have HST := hide (show upB (blkAt l0 bs l1) (k + 1) = (upB (blkAt l0 bs l1) k && blkB l0 bs l1 k b) by rw [upB_succ, blkAt_at hx])
      have HF : Hid (blkB l0 bs l1 k b = false → RR = false) := hide (fun h => by rw [unhide HR]; exact upB_false hlt (by rw [blkAt_at hx, h]))
      obtain ⟨b2, o2, ai, ci, rfl, hcap, hsz, hrs, hcell⟩ := unhide HCS k b hx
      have HFI : Hid (∀ V, Below w.heap.size w V → Calls Tryz.prog 102 #[.agg #[.slice ai b.inp.length ci, .int .i64 b.table], .int .i64 (N : Int)] V fun e w' => e = .returned (.bool (lutB N ⟨b.inp, b.table⟩)) ∧ Below V.heap.size V w') := hide (fun V hV => iFits b.inp b.table N _ V (unhide HIN b hmem) (by have := unhide HNb; have := unhide HLB; omega) (hrs.later RInt.keeps hV))
      have HRG : Hid (∀ V : World, Calls Tryz.prog 103 #[.agg #[.slice s0 l0 c0, .slice s1 l1 c1, .slice (some ⟨b2, o2, none⟩) l2 c2, .slice s3 l3 c3, .slice s4 l4 c4], .agg #[.string b.name, .slice ai b.inp.length ci, .int .i64 b.table, .bool b.reg, .int .i64 b.init, .int .i64 b.clock]] V fun e w' => e = .returned (.bool (regB l1 b)) ∧ Below V.heap.size V w') := hide (fun V => iRegFits s0 s1 _ s3 s4 l0 l1 l2 l3 l4 c0 c1 c2 c3 c4 b ai b.inp.length ci V hsz hl1)
      have HAH : Hid (lutB N ⟨b.inp, b.table⟩ = true → ∀ V, Below w.heap.size w V → Calls Tryz.prog 104 #[.agg #[.slice s0 l0 c0, .slice s1 l1 c1, .slice (some ⟨b2, o2, none⟩) l2 c2, .slice s3 l3 c3, .slice s4 l4 c4], .int .i64 (k : Int)] V fun e w' => e = .returned (.bool (aheadB l0 bs k b.inp)) ∧ Below V.heap.size V w') := hide (fun hp V hV => by
        have h := lutB_parts hp
        exact iAhead s0 s1 _ s3 s4 l0 l1 l2 l3 l4 c0 c1 c2 c3 c4 bs k b hx V hl0 (unhide HLB) h.1 (fun x hx => by have h1 := h.2 x hx; have h2 := unhide HNb; rw [h2]; exact h1) (unhide HH2 V hV))
      have HBK : Hid (blkB l0 bs l1 k b = (lutB N ⟨b.inp, b.table⟩ && regB l1 b && (b.reg || aheadB l0 bs k b.inp))) := hide (by unfold blkB; rw [unhide HNb])
      have z0 := cell_later (btr (unhide HW) hbw) (hcell 0 _ rfl)
      have z1 := cell_later (btr (unhide HW) hbw) (hcell 1 _ rfl)
      have z2 := cell_later (btr (unhide HW) hbw) (hcell 2 _ rfl)
      have z3 := cell_later (btr (unhide HW) hbw) (hcell 3 _ rfl)
      have z4 := cell_later (btr (unhide HW) hbw) (hcell 4 _ rfl)
      have z5 := cell_later (btr (unhide HW) hbw) (hcell 5 _ rfl)
      simp only [Nat.add_zero] at z0
      generalize b.inp.length = m at *
      have i1 : (0 : Int) ≤ (k : Int) := by omega
      have i2 : (k : Int) < (l2 : Int) := by omega
      obtain ⟨V1, hV1⟩ : ∃ V1, V1 = wr.alloc (.cells #[.string b.name, .slice ai m ci, .int .i64 b.table, .bool b.reg, .int .i64 b.init, .int .i64 b.clock] 104) := ⟨_, rfl⟩
      have HC2 : Hid (∀ V, Below V1.heap.size V1 V → V.cell? ⟨wr.heap.size, 0, none⟩ = some (.string b.name) ∧ V.cell? ⟨wr.heap.size, 1, none⟩ = some (.slice ai m ci) ∧ V.cell? ⟨wr.heap.size, 2, none⟩ = some (.int .i64 b.table) ∧ V.cell? ⟨wr.heap.size, 3, none⟩ = some (.bool b.reg) ∧ V.cell? ⟨wr.heap.size, 4, none⟩ = some (.int .i64 b.init) ∧ V.cell? ⟨wr.heap.size, 5, none⟩ = some (.int .i64 b.clock)) := hide (fun V hb => by
        rw [hV1] at hb
        exact ⟨cell_later hb (by rw [World.cell?_alloc_new]; rfl), cell_later hb (by rw [World.cell?_alloc_new]; rfl), cell_later hb (by rw [World.cell?_alloc_new]; rfl), cell_later hb (by rw [World.cell?_alloc_new]; rfl), cell_later hb (by rw [World.cell?_alloc_new]; rfl), cell_later hb (by rw [World.cell?_alloc_new]; rfl)⟩)
      have HB2 : Hid (Below W.heap.size W V1) := hide (by rw [hV1]; exact bal hbw _)
      have HBv : Hid (Below w.heap.size w V1) := hide (btr (unhide HW) (unhide HB2))
      have HV1 := hide hV1
      clear hrs hcell hx hmem hbw hV1 hkl hsz
      generalize lutB N ⟨b.inp, b.table⟩ = p1 at *
      generalize regB l1 b = p2 at *
      generalize aheadB l0 bs k b.inp = p3 at *
      generalize blkB l0 bs l1 k b = BB at *
      go_wp2
      rw [← unhide HV1]
      clear z0 z1 z2 z3 z4 z5
      refine wp_plan (GF (FBK s0 s1 (some ⟨b2, o2, none⟩) s3 s4 l0 l1 l2 l3 l4 c0 c1 c2 c3 c4 N b ai m ci p1 p2)) (JB V1) (by kernel_rfl) 35 (by kernel_rfl) (by kernel_rfl) ?hj ?hs ?hf
      case hj => exact bdr (brf V1)
      case hs =>
        refine ⟨?_, ?_, ?_, ?_, ?_, ?_, ?_, ?_, ?_, ?_, ?_, ?_, trivial⟩
        · exact st_val rfl (fun l a V hp ha => ⟨.agg #[.string b.name, .slice ai m ci, .int .i64 b.table, .bool b.reg, .int .i64 b.init, .int .i64 b.clock], by
            have x4 := (ev_form a 4).trans (old hp 4 (v := .pointer (some ⟨wr.heap.size, 0, none⟩)) (by kernel_rfl) (by kernel_rfl))
            obtain ⟨y0, y1, y2, y3, y4, y5⟩ := unhide HC2 V hp.j
            go_simp, rfl⟩)
        · exact st_call (f := 101) rfl (fun l a V hp ha => ⟨#[.agg #[.string b.name, .slice ai m ci, .int .i64 b.table, .bool b.reg, .int .i64 b.init, .int .i64 b.clock]], by
            have x13 := (ev_form a 13).trans (show a.eval (.tmp 13) = .agg #[.string b.name, .slice ai m ci, .int .i64 b.table, .bool b.reg, .int .i64 b.init, .int .i64 b.clock] from kn hp ha 13 0 (by kernel_rfl) (by kernel_rfl))
            go_simp, (iLut _ _ _ _ _ _ V ai m ci rfl).mono (by rintro e V1 ⟨rfl, hb⟩; exact ⟨_, rfl, rfl, hb⟩)⟩)
        · exact st_val rfl (fun l a V hp ha => ⟨.agg #[.slice s0 l0 c0, .slice s1 l1 c1, .slice (some ⟨b2, o2, none⟩) l2 c2, .slice s3 l3 c3, .slice s4 l4 c4], by
            have x1 := (ev_form a 1).trans (old hp 1 (v := .pointer (some ⟨w.heap.size, 0, none⟩)) (by kernel_rfl) (by kernel_rfl))
            obtain ⟨q0, q1, q2, q3, q4⟩ := unhide HC1 V (btr (unhide HB2) hp.j)
            go_simp, rfl⟩)
        · exact st_call (f := 33) rfl (fun l a V hp ha => ⟨#[.agg #[.slice s0 l0 c0, .slice s1 l1 c1, .slice (some ⟨b2, o2, none⟩) l2 c2, .slice s3 l3 c3, .slice s4 l4 c4]], by
            have x15 := (ev_form a 15).trans (show a.eval (.tmp 15) = .agg #[.slice s0 l0 c0, .slice s1 l1 c1, .slice (some ⟨b2, o2, none⟩) l2 c2, .slice s3 l3 c3, .slice s4 l4 c4] from kn hp ha 15 2 (by kernel_rfl) (by kernel_rfl))
            go_simp, (unhide HSO V).mono (by rintro e V1 ⟨rfl, hb⟩; exact ⟨_, rfl, rfl, hb⟩)⟩)
        · exact st_call (f := 102) rfl (fun l a V hp ha => ⟨#[.agg #[.slice ai m ci, .int .i64 b.table], .int .i64 (N : Int)], by
            have x14 := (ev_form a 14).trans (show a.eval (.tmp 14) = .agg #[.slice ai m ci, .int .i64 b.table] from kn hp ha 14 1 (by kernel_rfl) (by kernel_rfl))
            have x16 := (ev_form a 16).trans (show a.eval (.tmp 16) = .int .i64 (N : Int) from kn hp ha 16 3 (by kernel_rfl) (by kernel_rfl))
            go_simp, (unhide HFI V (btr (unhide HBv) hp.j)).mono (by rintro e V1 ⟨rfl, hb⟩; exact ⟨_, rfl, rfl, hb⟩)⟩)
        · exact st_val rfl (fun l a V hp ha => ⟨.bool (!p1), by
            have x17 := (ev_form a 17).trans (show a.eval (.tmp 17) = .bool p1 from kn hp ha 17 4 (by kernel_rfl) (by kernel_rfl))
            go_simp, rfl⟩)
        · exact st_val rfl (fun l a V hp ha => ⟨.bool (!p1), by
            have x18 := (ev_form a 18).trans (show a.eval (.tmp 18) = .bool (!p1) from kn hp ha 18 5 (by kernel_rfl) (by kernel_rfl))
            go_simp, rfl⟩)
        · exact st_valg (c := (!p1)) rfl rfl (by simp) (by kernel_rfl) (fun v h => h) (fun hn hc => absurd hc hn) (fun l a V hp ha hc => ⟨.agg #[.slice s0 l0 c0, .slice s1 l1 c1, .slice (some ⟨b2, o2, none⟩) l2 c2, .slice s3 l3 c3, .slice s4 l4 c4], by
            have x1 := (ev_form a 1).trans (old hp 1 (v := .pointer (some ⟨w.heap.size, 0, none⟩)) (by kernel_rfl) (by kernel_rfl))
            obtain ⟨q0, q1, q2, q3, q4⟩ := unhide HC1 V (btr (unhide HB2) hp.j)
            go_simp, fun _ => rfl⟩)
        · exact st_valg (c := (!p1)) rfl rfl (by simp) (by kernel_rfl) (fun v h => h) (fun hn hc => absurd hc hn) (fun l a V hp ha hc => ⟨.agg #[.string b.name, .slice ai m ci, .int .i64 b.table, .bool b.reg, .int .i64 b.init, .int .i64 b.clock], by
            have x4 := (ev_form a 4).trans (old hp 4 (v := .pointer (some ⟨wr.heap.size, 0, none⟩)) (by kernel_rfl) (by kernel_rfl))
            obtain ⟨y0, y1, y2, y3, y4, y5⟩ := unhide HC2 V hp.j
            go_simp, fun _ => rfl⟩)
        · exact st_callg (f := 103) (c := (!p1)) rfl rfl (by simp) (by kernel_rfl) (fun v h => h) (fun hn hc => absurd hc hn) (fun l a V hp ha hc => ⟨#[.agg #[.slice s0 l0 c0, .slice s1 l1 c1, .slice (some ⟨b2, o2, none⟩) l2 c2, .slice s3 l3 c3, .slice s4 l4 c4], .agg #[.string b.name, .slice ai m ci, .int .i64 b.table, .bool b.reg, .int .i64 b.init, .int .i64 b.clock]], by
            have x20 := (ev_form a 20).trans (show a.eval (.tmp 20) = .agg #[.slice s0 l0 c0, .slice s1 l1 c1, .slice (some ⟨b2, o2, none⟩) l2 c2, .slice s3 l3 c3, .slice s4 l4 c4] from (kn hp ha 20 7 (by kernel_rfl) (by kernel_rfl)) hc)
            have x21 := (ev_form a 21).trans (show a.eval (.tmp 21) = .agg #[.string b.name, .slice ai m ci, .int .i64 b.table, .bool b.reg, .int .i64 b.init, .int .i64 b.clock] from (kn hp ha 21 8 (by kernel_rfl) (by kernel_rfl)) hc)
            go_simp, (unhide HRG V).mono (by rintro e V1 ⟨rfl, hb⟩; exact ⟨_, rfl, fun _ => rfl, hb⟩)⟩)
        · exact st_valg (c := (!p1)) rfl rfl (by simp) (by kernel_rfl) (fun v h => h) (fun hn hc => absurd hc hn) (fun l a V hp ha hc => ⟨.bool (!p2), by
            have x22 := (ev_form a 22).trans (show a.eval (.tmp 22) = .bool p2 from (kn hp ha 22 9 (by kernel_rfl) (by kernel_rfl)) hc)
            go_simp, fun _ => rfl⟩)
        · exact st_val rfl (fun l a V hp ha => ⟨.bool (!p1 || !p2), by
            have x19 := (ev_form a 19).trans (show a.eval (.tmp 19) = .bool (!p1) from kn hp ha 19 6 (by kernel_rfl) (by kernel_rfl))
            have y23 : (!p1) = false → a.eval (.tmp 23) = .bool (!p2) := kn hp ha 23 10 (by kernel_rfl) (by kernel_rfl)
            cases p1
            · rw [show (!false) = true from rfl] at x19
              go_simp
            · have x23 := (ev_form a 23).trans (y23 rfl)
              rw [show (!true) = false from rfl] at x19
              go_simp, rfl⟩)
      case hf =>
        intro l a V hp hall
        have hv := hp.good 11 _ 24 rfl rfl (hall 11 (by decide))
        have HBV := hide hp.j
        obtain ⟨us, rfl, hus⟩ := putAll_of [13, 14, 15, 16, 17, 18, 19, 20, 21, 22, 23, 24] hp.nt hp.df (fun t ht => hp.keep t (dstIn (by kernel_rfl) ht))
        have hv2 : us 24 = .bool (!p1 || !p2) := by rw [hus 24]; exact hv
        clear hp hall hv hus
        simp only [putAll, List.foldl, Act.put, List.setIfInBounds_toArray, List.set_cons_zero, List.set_cons_succ, hv2]
        obtain ⟨q0, q1, q2, q3, q4⟩ := unhide HC1 V (btr (unhide HB2) (unhide HBV))
        obtain ⟨y0, y1, y2, y3, y4, y5⟩ := unhide HC2 V (unhide HBV)
        cases p1
        · rw [show (!false || !p2) = true from rfl]
          go_wp2
          exact bodyPost_ret (v := .bool false) (by simp [results, Tryz.results84, go_sem]) rfl ⟨by rw [show RR = false from unhide HF (by rw [unhide HBK]; rfl)], btr (unhide HBv) (unhide HBV)⟩
        · cases p2
          · rw [show (!true || !false) = true from rfl]
            go_wp2
            exact bodyPost_ret (v := .bool false) (by simp [results, Tryz.results84, go_sem]) rfl ⟨by rw [show RR = false from unhide HF (by rw [unhide HBK]; rfl)], btr (unhide HBv) (unhide HBV)⟩
          · rw [show (!true || !true) = false from rfl]
            have HBK2 : Hid (BB = (b.reg || p3)) := hide (by rw [unhide HBK]; rfl)
            generalize b.reg = rg at *
            cases rg
            · cases p3
              · go_wp2_with fail
                refine (unhide HAH (by first | rfl | trivial) _ (btr (unhide HBv) (unhide HBV))).mono ?_
                rintro e V3 ⟨rfl, h⟩
                have HB3 := hide (btr (btr (unhide HBv) (unhide HBV)) h)
                clear h
                go_wp2_with fail
                exact bodyPost_ret (v := .bool false) (by simp [results, Tryz.results84, go_sem]) rfl ⟨by rw [show RR = false from unhide HF (by rw [unhide HBK2]; rfl)], unhide HB3⟩
              · go_wp2_with fail
                refine (unhide HAH (by first | rfl | trivial) _ (btr (unhide HBv) (unhide HBV))).mono ?_
                rintro e V3 ⟨rfl, h⟩
                have HB3 := hide (btr (btr (unhide HB2) (unhide HBV)) h)
                clear h
                go_wp2_with fail
                go_roundw
                case rel => exact ⟨k + 1, by omega, by go_num, by rw [unhide HST, unhide HA, unhide HBK2]; rfl, unhide HB3⟩
                case measure => simp [intOf]; omega
            · go_wp2_with fail
              go_roundw
              case rel => exact ⟨k + 1, by omega, by go_num, by rw [unhide HST, unhide HA, unhide HBK2]; rfl, btr (unhide HB2) (unhide HBV)⟩
              case measure => simp [intOf]; omega
    · obtain rfl : k = l2 := by omega
      have HB := hide (btr (unhide HW) hbw)
      clear hbw HCS HH2 HIN
      go_wp2
      exact bodyPost_ret (v := .bool true) (by simp [results, Tryz.results84, go_sem]) rfl ⟨by rw [unhide HR, unhide HA], unhide HB⟩
end Go.Proofs.YtlldfaniddbjaaaGreatDoor
namespace Go.Proofs.YtlldfaniddbjaaaGreatDoor
open Go Go.RowKit Gs
set_option linter.unusedVariables false
set_option linter.unusedSimpArgs false
set_option maxRecDepth 100000
def portC (p : Port) : List Value := [.string p.name, .int .i64 p.src]
theorem portC_len (p : Port) : (portC p).length = 2 := rfl
theorem portC_one (p : Port) : ∀ u ∈ portC p, u.oneCell' = true := by
  intro u hu
  simp [portC] at hu
  rcases hu with rfl | rfl <;> rfl
def portZ : Value := .agg #[.string ByteArray.empty, .int .i64 0]
theorem info58 : (Tryz.prog.info? 106).map (fun i => (i.zero, i.size, i.bytes)) = some (some portZ, 2, 24) := by kernel_rfl
/-- Ports in a row of one's own. -/
def OP (B : Nat) (W : World) (v : Value) (xs : List Port) : Prop := OW 106 2 portC B W v xs ∧ ∀ p ∈ xs, p.name.size ≤ maxLen
theorem OP.later {B : Nat} {v : Value} {xs : List Port} {W W' : World} (h : OP B W v xs) (hb : Below W.heap.size W W') : OP B W' v xs := ⟨h.1.later hb, h.2⟩
theorem OP_nil (B : Nat) (W : World) : OP B W (.slice none 0 0) [] := ⟨OW.nil, fun _ h => by cases h⟩
theorem OP.any {B : Nat} {v : Value} {xs : List Port} {W : World} (h : OP B W v xs) (hl : xs.length ≤ 4194304) : RS 2 RPort W 0 xs v := (h.1.read portC_len (fun x hx => ⟨rfl, h.2 x hx⟩) (by unfold maxLen; omega)).low RPort.lowers (Nat.zero_le _)
theorem rport_c {W : World} (x : Port) (u : List Value) (h : RPort W 0 x u) : u = portC x := h.1
theorem rs_names {W : World} {ys : List Port} {v : Value} (h : RS 2 RPort W 0 ys v) : ∀ p ∈ ys, p.name.size ≤ maxLen := by
  intro p hp
  obtain ⟨j, hj⟩ := List.getElem?_of_mem hp
  rcases h.open with ⟨rfl, _⟩ | ⟨_, _, _, _, _, _, _, hcs⟩
  · simp at hj
  · obtain ⟨u, _, _, _, hs⟩ := hcs j p hj
    exact hs
theorem wpAppP {ops : Array Oper} {rest : List Oper} {o : Oper} {a : Act} {Q : Exit → Act → World → Prop} {w : World} (hg : o.guard = none) (s x : Operand) (hop : o.op = Op.call { callee := Callee.builtin Builtin.append, args := #[s, x], argTypes := #[35, 35] })
    (B : Nat) (v : Value) (xs : List Port) (hs : a.eval s = v) (hown : OP B w v xs) (xv : Value) (ys : List Port) (hx : a.eval x = xv) (hr : RS 2 RPort w 0 ys xv) (hlen : xs.length + ys.length ≤ 4194304) (hB : B ≤ w.heap.size)
    (hK : ∀ v' w', OP B w' v' (xs ++ ys) → w.grownBy w' v.ownBlock → wpList Tryz.prog ops Q rest (a.put o.dst v') w') : wpList Tryz.prog ops Q (o :: rest) a w :=
  wpAppW portZ Tryz.underlying35 info58 rfl (by decide) (by decide) portC_len portC_one hg s x hop B v xs hs hown.1 xv ys rport_c hx hr hlen hB (fun v' w' h1 h2 => hK v' w' ⟨h1, fun p hp => by
    rcases List.mem_append.1 hp with h | h
    · exact hown.2 p h
    · exact rs_names hr p h⟩ h2)
set_option maxHeartbeats 1600000 in
theorem iGrowP (n : Nat) (w : World) (hn : n ≤ 4194304) : Calls Tryz.prog 129 #[.slice none 0 0, .int .i64 (n : Int)] w fun e w' => (∃ v', e = .returned v' ∧ OP w.heap.size w' v' []) ∧ Below w.heap.size w w' := by
  obtain ⟨i0, hi, hz0, hz1, hz2⟩ := info_parts info58
  by_cases h0 : n = 0
  · subst h0
    go_enter Tryz.func129, Tryz.ntmps129
    go_wp2
    exact bodyPost_ret (v := .slice none 0 0) (by simp [results, Tryz.results129, go_sem]) rfl ⟨⟨_, rfl, OP_nil _ _⟩, brf _⟩
  · have hrun := fun ty => Lib.run_append_nil_zeros (P := Tryz.prog) w 35 3 ty 106 i0 portZ .i64 .i64 Tryz.underlying35 Tryz.underlying3 hi hz0 n (by omega) (by omega) (by omega) (by rw [hz2]; omega)
    obtain ⟨C, hC⟩ : ∃ C, grownCap w n 0 106 = C := ⟨_, rfl⟩
    have hC1 : n ≤ C := by rw [← hC]; exact grownCap_ge w _ _ _
    have hC2 : C ≤ maxLen := by rw [← hC]; exact grownCap_le_maxLen w _ _ _ (by unfold maxLen; omega)
    rw [hC] at hrun
    have HS := hide (show (Builtin.zeroCells (Value.cells portZ) n ++ Builtin.zeroCells (Value.cells portZ) (C - n)).size = C * 2 by simp [size_zeroCells, Value.cells, portZ]; omega)
    generalize Builtin.zeroCells (Value.cells portZ) n ++ Builtin.zeroCells (Value.cells portZ) (C - n) = M at hrun HS
    have HC2 := hide hC2
    have hC3 : C ≤ 9223372036854775807 := by unfold maxLen at hC2; omega
    have hp : (0 : Int) < (n : Int) := by omega
    clear hi hz0 hz1 hz2 hC hC2
    go_enter Tryz.func129, Tryz.ntmps129
    go_wp2_with (first | (at_builtin; refine Lib.wpList_append_run _ rfl _ _ 35 3 rfl _ _ rfl rfl _ _ (hrun _) ?_))
    refine bodyPost_ret (v := .slice (some ⟨w.heap.size, 0, none⟩) 0 C) (by simp [results, Tryz.results129, go_sem]) rfl ⟨⟨_, rfl, ?_⟩, bal (bdr (brf w)) _⟩
    refine ⟨World.ownsRow_made (w := w.drew) M C (Nat.le_refl _) (unhide HC2) (unhide HS), fun _ h => by cases h⟩
set_option maxHeartbeats 3200000 in
theorem iConcatP (xss : List (List Port)) (v : Value) (w : World) (hn : xss.length ≤ 1048576) (hl : (xss.map List.length).sum ≤ 4194304) (hr : RS 1 (RL 2 RPort) w 0 xss v) :
    Calls Tryz.prog 112 #[v] w fun e w' => (∃ v', e = .returned v' ∧ OP w.heap.size w' v' xss.flatten) ∧ Below w.heap.size w w' := by
  rcases hr.open with ⟨rfl, a, c, rfl⟩ | ⟨b, o, c, rfl, hc, hnm, _, hcs⟩
  · clear hr
    go_enter Tryz.func112, Tryz.ntmps112
    go_wp2
    refine wp_loop_rounds 1 ?_
    rw [rounds_succ]
    go_wp2_with (first | (go_at_call 129; refine (iGrowP 0 _ (by omega)).mono ?_; rintro e W1 ⟨⟨v1, rfl, ho⟩, hb1⟩; have HO := hide ho; have HB := hide hb1; clear ho hb1))
    refine wp_loop_rounds 1 ?_
    rw [rounds_succ]
    go_wp2
    exact bodyPost_ret (v := v1) (by simp [results, Tryz.results112, go_sem]) rfl ⟨⟨_, rfl, unhide HO⟩, unhide HB⟩
  · have HC := hide hcs
    clear hcs hr hnm
    go_enter Tryz.func112, Tryz.ntmps112
    go_wp2
    go_loop [3, 11] (fun s i => ∃ k : Nat, k ≤ xss.length ∧ i = .int .i64 k ∧ s = .int .i64 ((((xss.take k).map List.length).sum : Nat) : Int)) (fun s i => xss.length - (intOf i).toNat)
    case atStart => exact ⟨0, Nat.zero_le _, rfl, rfl⟩
    case round =>
      obtain ⟨k, hk, rfl, rfl⟩ := hrel
      by_cases hlt : k < xss.length
      · have hx : xss[k]? = some xss[k] := List.getElem?_eq_getElem hlt
        generalize xss[k] = x at hx
        have hst := sum_take xss k x hx
        have hle := sum_le xss (k + 1)
        obtain ⟨u, hul, hat, ve, rfl, hve⟩ := unhide HC k x hx
        obtain ⟨ae, ce, rfl⟩ := hve.slice
        have k0 := hat.get (j := 0) rfl
        simp only [Nat.add_zero, Nat.mul_one] at k0
        clear hat hul HC hve
        generalize hS : ((xss.take k).map List.length).sum = S at *
        obtain ⟨S2, hS2⟩ : ∃ S2 : Nat, S2 = S + x.length := ⟨_, rfl⟩
        have q1 : (S : Int) + (x.length : Int) = (S2 : Int) := by omega
        have q2 : ¬ ((S2 : Int) < 0) := by omega
        have HH := hide hst
        have HH2 := hide hS2
        have HS2 : Hid (S2 ≤ 4194304) := hide (by omega)
        have hS3 : S2 ≤ 4194304 := by omega
        clear hst hS2 hS hle
        go_wp2
        go_round
        case rel => exact ⟨k + 1, by omega, by go_num, by rw [unhide HH, ← unhide HH2]⟩
        case measure => simp [intOf]; omega
      · obtain rfl : k = xss.length := by omega
        have ht : ((xss.take xss.length).map List.length).sum = (xss.map List.length).sum := by rw [List.take_of_length_le (Nat.le_refl _)]
        rw [ht]
        clear ht
        have HL := hide hl
        go_wp2_with (first | (go_at_call 129; refine (iGrowP _ _ (unhide HL)).mono ?_; rintro e W1 ⟨⟨v1, rfl, ho⟩, hb1⟩; have HO := hide ho; have HB := hide hb1; clear ho hb1))
        go_loopw [6, 27] (fun r i wr => ∃ k : Nat, k ≤ xss.length ∧ i = .int .i64 k ∧ OP w.heap.size wr r (xss.take k).flatten ∧ Below w.heap.size w wr) (fun r i wr => xss.length - (intOf i).toNat)
        case atStart => exact ⟨0, Nat.zero_le _, rfl, unhide HO, unhide HB⟩
        case round =>
          clear HO HB
          obtain ⟨k, hk, rfl, hown, hb⟩ := hrel
          have HO := hide hown
          have HB := hide hb
          by_cases hlt : k < xss.length
          · have hx : xss[k]? = some xss[k] := List.getElem?_eq_getElem hlt
            generalize xss[k] = x at hx
            have HST := hide (flat_take xss k x hx)
            have HLE := hide (show (xss.take k).flatten.length + x.length ≤ 4194304 by
              have h1 := sum_take xss k x hx
              have h2 := sum_le xss (k + 1)
              have h3 := flat_len (xss.take k)
              omega)
            obtain ⟨u, hul, hat, ve, rfl, hve⟩ := unhide HC k x hx
            have HV := hide (hve.later RPort.keeps hb)
            obtain ⟨ae, ce, rfl⟩ := hve.slice
            have k0 := cell_later hb (hat.get (j := 0) rfl)
            simp only [Nat.add_zero, Nat.mul_one] at k0
            have HSZ := hide hb.size
            clear hat hul HC hve hown hb hx
            go_wp2_with (first | (at_builtin; refine wpAppP rfl _ _ rfl w.heap.size _ _ rfl (unhide HO) _ x rfl (unhide HV) (unhide HLE) (unhide HSZ) ?_; intro v2 w2 ho2 hg2))
            have R2 := below_grown (unhide HB) hg2 (unhide HSZ) ((unhide HO).1.row)
            go_roundw
            case rel => exact ⟨k + 1, by omega, by go_num, by rw [unhide HST]; exact ho2, R2⟩
            case measure => simp [intOf]; omega
          · obtain rfl : k = xss.length := by omega
            have ht : (xss.take xss.length).flatten = xss.flatten := by rw [List.take_of_length_le (Nat.le_refl _)]
            rw [ht] at HO
            clear hown hb HC ht
            go_wp2
            exact bodyPost_ret (v := u6) (by simp [results, Tryz.results112, go_sem]) rfl ⟨⟨_, rfl, unhide HO⟩, unhide HB⟩


theorem ports_two {W : World} {xs ys : List Port} {v u : Value} (b : Nat) (hx : RS 2 RPort W 0 xs v) (hy : RS 2 RPort W 0 ys u) (h0 : W.cell? ⟨b, 0, none⟩ = some v) (h1 : W.cell? ⟨b, 1, none⟩ = some u) : RS 1 (RL 2 RPort) W 0 [xs, ys] (.slice (some ⟨b, 0, none⟩) 2 2) := by
  refine ⟨some ⟨b, 0, none⟩, 2, rfl, by simp, by unfold maxLen; simp, fun _ => ⟨b, 0, rfl, Nat.zero_le _, fun i x hx' => ?_⟩⟩
  match i, hx' with
  | 0, h => simp at h; subst h; exact ⟨[v], rfl, fun j y hj => by cases j with | zero => (simp at hj; subst hj; simpa using h0) | succ j => simp at hj, v, rfl, hx⟩
  | 1, h => simp at h; subst h; exact ⟨[u], rfl, fun j y hj => by cases j with | zero => (simp at hj; subst hj; simpa using h1) | succ j => simp at hj, u, rfl, hy⟩
  | i + 2, h => simp at h
set_option maxHeartbeats 3200000 in
theorem iEnds (s0 s1 s2 s3 s4 : Option Addr) (l0 l1 l2 l3 l4 c0 c1 c2 c3 c4 : Nat) (xs3 xs4 : List Port) (w : World) (hl3 : xs3.length ≤ 1048576) (hl4 : xs4.length ≤ 1048576) (h3 : RS 2 RPort w 0 xs3 (.slice s3 l3 c3)) (h4 : RS 2 RPort w 0 xs4 (.slice s4 l4 c4)) :
    Calls Tryz.prog 90 #[.agg #[.slice s0 l0 c0, .slice s1 l1 c1, .slice s2 l2 c2, .slice s3 l3 c3, .slice s4 l4 c4]] w fun e w' => (∃ v', e = .returned v' ∧ OP w.heap.size w' v' (xs3 ++ xs4)) ∧ Below w.heap.size w w' := by
  have HCC : Hid (∀ V b, Below w.heap.size w V → w.heap.size ≤ V.heap.size → V.cell? ⟨b, 0, none⟩ = some (.slice s3 l3 c3) → V.cell? ⟨b, 1, none⟩ = some (.slice s4 l4 c4) → Calls Tryz.prog 112 #[.slice (some ⟨b, 0, none⟩) 2 2] V fun e w' => (∃ v', e = .returned v' ∧ OP w.heap.size w' v' (xs3 ++ xs4)) ∧ Below w.heap.size w w') := hide (fun V b hV hsz h0 h1 => by
    refine (iConcatP [xs3, xs4] _ V (by simp) (by simp; omega) (ports_two b (h3.later RPort.keeps hV) (h4.later RPort.keeps hV) h0 h1)).mono ?_
    rintro e W ⟨⟨v', rfl, ho⟩, hb⟩
    refine ⟨⟨v', rfl, ?_⟩, btr hV hb⟩
    simp at ho
    refine ⟨⟨ho.1.1, ?_⟩, ho.2⟩
    rcases ho.1.2 with h | ⟨g, cap, cur, h1, h2, h3⟩
    · exact .inl h
    · exact .inr ⟨g, cap, cur, h1, by omega, h3⟩)
  clear h3 h4
  go_enter Tryz.func90, Tryz.ntmps90
  go_wp2_with fail
  refine (unhide HCC _ _ (bal (bal (brf w) _) _) (by simp; omega) (by simp) (by simp)).mono ?_
  rintro e W1 ⟨⟨v1, rfl, ho⟩, hb1⟩
  have HO := hide ho
  have HB := hide hb1
  clear ho hb1
  go_wp2
  exact bodyPost_ret (v := v1) (by simp [results, Tryz.results90, go_sem]) rfl ⟨⟨_, rfl, unhide HO⟩, unhide HB⟩
end Go.Proofs.YtlldfaniddbjaaaGreatDoor
