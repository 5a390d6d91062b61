/- blocksFit. -/
import Derived.Test.YtdmmbhemmbgcpabGreatGPC
import Derived.Test.YtdmmbhemmbgcpabGreatGRW2
namespace Go.Proofs.YtdmmbhemmbgcpabGreat
open Go Go.RowKit Gs
set_option linter.unusedVariables false
set_option linter.unusedSimpArgs false
set_option maxRecDepth 100000
def FBK (s0 s1 s2 s3 s4 : Option Addr) (l0 l1 l2 l3 l4 c0 c1 c2 c3 c4 : Nat) (N : Nat) (b : Block) (ai : Option Addr) (m ci : Nat) (p1 p2 : Bool) : Nat → Value → Prop
  | 0, v => v = .agg #[.string b.name, .slice ai m ci, .int .i64 b.table, .bool b.reg, .int .i64 b.init, .int .i64 b.clock]
  | 1, v => v = .agg #[.slice ai m ci, .int .i64 b.table]
  | 2, v => v = .agg #[.slice s0 l0 c0, .slice s1 l1 c1, .slice s2 l2 c2, .slice s3 l3 c3, .slice s4 l4 c4]
  | 3, v => v = .int .i64 (N : Int)
  | 4, v => v = .bool p1
  | 5, v => v = .bool (!p1)
  | 6, v => v = .bool (!p1)
  | 7, v => (!p1) = false → v = .agg #[.slice s0 l0 c0, .slice s1 l1 c1, .slice s2 l2 c2, .slice s3 l3 c3, .slice s4 l4 c4]
  | 8, v => (!p1) = false → v = .agg #[.string b.name, .slice ai m ci, .int .i64 b.table, .bool b.reg, .int .i64 b.init, .int .i64 b.clock]
  | 9, v => (!p1) = false → v = .bool p2
  | 10, v => (!p1) = false → v = .bool (!p2)
  | 11, v => v = .bool (!p1 || !p2)
  | _, _ => True
set_option maxHeartbeats 16000000 in
theorem iBlocksFit (s0 s1 s2 s3 s4 : Option Addr) (l0 l1 l2 l3 l4 c0 c1 c2 c3 c4 : Nat) (bs : List Block) (w : World) (hl0 : l0 ≤ 1048576) (hl1 : l1 ≤ 1048576) (hlb : bs.length ≤ 1048576) (hin : ∀ x ∈ bs, x.inp.length ≤ 1048576) (h2 : RS 6 RBlock w 0 bs (.slice s2 l2 c2)) :
    Calls Tryz.prog 59 #[.agg #[.slice s0 l0 c0, .slice s1 l1 c1, .slice s2 l2 c2, .slice s3 l3 c3, .slice s4 l4 c4]] w fun e w' => e = .returned (.bool (blocksB l0 bs l1)) ∧ Below w.heap.size w w' := by
  have HC1 : Hid (∀ V, Below (w.alloc (.cells #[.slice s0 l0 c0, .slice s1 l1 c1, .slice s2 l2 c2, .slice s3 l3 c3, .slice s4 l4 c4] 36)).heap.size (w.alloc (.cells #[.slice s0 l0 c0, .slice s1 l1 c1, .slice s2 l2 c2, .slice s3 l3 c3, .slice s4 l4 c4] 36)) V → V.cell? ⟨w.heap.size, 0, none⟩ = some (.slice s0 l0 c0) ∧ V.cell? ⟨w.heap.size, 1, none⟩ = some (.slice s1 l1 c1) ∧ V.cell? ⟨w.heap.size, 2, none⟩ = some (.slice s2 l2 c2) ∧ V.cell? ⟨w.heap.size, 3, none⟩ = some (.slice s3 l3 c3) ∧ V.cell? ⟨w.heap.size, 4, none⟩ = some (.slice s4 l4 c4)) := hide (fun V hb => ⟨cell_later hb (by rw [World.cell?_alloc_new]; rfl), cell_later hb (by rw [World.cell?_alloc_new]; rfl), cell_later hb (by rw [World.cell?_alloc_new]; rfl), cell_later hb (by rw [World.cell?_alloc_new]; rfl), cell_later hb (by rw [World.cell?_alloc_new]; rfl)⟩)
  have hln : l2 = bs.length := by
    obtain ⟨a, c, hv, _⟩ := h2
    injection hv with e1 e2 e3
  have HH2 := hide (fun (V : World) (hb : Below w.heap.size w V) => h2.later RBlock.keeps hb)
  have HCS : Hid (∀ (k : Nat) b, bs[k]? = some b → ∃ b2 o2 ai ci, s2 = some ⟨b2, o2, none⟩ ∧ l2 ≤ c2 ∧ b.name.size ≤ maxLen ∧ RS 1 RInt w 0 b.inp (.slice ai b.inp.length ci) ∧ (∀ j y, [.string b.name, .slice ai b.inp.length ci, .int .i64 b.table, .bool b.reg, .int .i64 b.init, .int .i64 b.clock][j]? = some y → w.cell? ⟨b2, o2 + k * 6 + j, none⟩ = some y)) := hide (fun k b hk => by
    rcases h2.open with ⟨rfl, _⟩ | ⟨b2, o2, c2', hv, hcc, hnm, _, hcs⟩
    · simp at hk
    injection hv with e1 e2 e3
    obtain ⟨u, hul, hat, v1, hus, hsz, hrs⟩ := hcs k b hk
    obtain ⟨ai, ci, rfl⟩ := hrs.slice
    subst hus
    exact ⟨b2, o2, ai, ci, e1, by omega, hsz, hrs, fun j y hj => hat j y hj⟩)
  clear h2
  obtain ⟨W, hW⟩ : ∃ W, W = w.alloc (.cells #[.slice s0 l0 c0, .slice s1 l1 c1, .slice s2 l2 c2, .slice s3 l3 c3, .slice s4 l4 c4] 36) := ⟨_, rfl⟩
  have HW : Hid (Below w.heap.size w W) := hide (by rw [hW]; exact bal (brf w) _)
  rw [← hW] at HC1
  obtain ⟨N, hN⟩ : ∃ N : Nat, l0 + l2 = N := ⟨_, rfl⟩
  have HSO : Hid (∀ V : World, Calls Tryz.prog 67 #[.agg #[.slice s0 l0 c0, .slice s1 l1 c1, .slice s2 l2 c2, .slice s3 l3 c3, .slice s4 l4 c4]] V fun e w' => e = .returned (.int .i64 (N : Int)) ∧ Below V.heap.size V w') := hide (fun V => by
    rw [← hN]
    exact iSources s0 s2 l0 l2 c0 c2 _ _ _ V hl0 (by omega))
  have HNb : Hid (l0 + bs.length = N) := hide (by omega)
  have HR : Hid (blocksB l0 bs l1 = upB (blkAt l0 bs l1) l2) := hide (by unfold blocksB; rw [hln])
  have HLN := hide hln
  have hl2 : l2 ≤ 1048576 := by omega
  have HIN := hide hin
  have HLB := hide hlb
  generalize blocksB l0 bs l1 = RR at *
  clear hin hN hln hlb
  have HW' := hide hW
  go_enter Tryz.func59, Tryz.ntmps59
  go_wp2
  rw [← unhide HW']
  clear hW
  go_loopw [8] (fun i wr => ∃ k : Nat, k ≤ l2 ∧ i = .int .i64 k ∧ upB (blkAt l0 bs l1) k = true ∧ Below W.heap.size W wr) (fun i wr => l2 - (intOf i).toNat)
  case atStart => exact ⟨0, Nat.zero_le _, rfl, rfl, brf _⟩
  case round =>
    obtain ⟨k, hk, rfl, hall, hbw⟩ := hrel
    have HA := hide hall
    have HB0 := hide hbw
    clear hall
    by_cases hlt : k < l2
    · have hkl : k < bs.length := by have := unhide HLN; omega
      have hx : bs[k]? = some bs[k] := List.getElem?_eq_getElem hkl
      have hmem : bs[k] ∈ bs := List.getElem_mem hkl
      generalize bs[k] = b at hx hmem
      have HST := hide (show upB (blkAt l0 bs l1) (k + 1) = (upB (blkAt l0 bs l1) k && blkB l0 bs l1 k b) by rw [upB_succ, blkAt_at hx])
      have HF : Hid (blkB l0 bs l1 k b = false → RR = false) := hide (fun h => by rw [unhide HR]; exact upB_false hlt (by rw [blkAt_at hx, h]))
      obtain ⟨b2, o2, ai, ci, rfl, hcap, hsz, hrs, hcell⟩ := unhide HCS k b hx
      have HFI : Hid (∀ V, Below w.heap.size w V → Calls Tryz.prog 80 #[.agg #[.slice ai b.inp.length ci, .int .i64 b.table], .int .i64 (N : Int)] V fun e w' => e = .returned (.bool (lutB N ⟨b.inp, b.table⟩)) ∧ Below V.heap.size V w') := hide (fun V hV => iFits b.inp b.table N _ V (unhide HIN b hmem) (by have := unhide HNb; have := unhide HLB; omega) (hrs.later RInt.keeps hV))
      have HRG : Hid (∀ V : World, Calls Tryz.prog 81 #[.agg #[.slice s0 l0 c0, .slice s1 l1 c1, .slice (some ⟨b2, o2, none⟩) l2 c2, .slice s3 l3 c3, .slice s4 l4 c4], .agg #[.string b.name, .slice ai b.inp.length ci, .int .i64 b.table, .bool b.reg, .int .i64 b.init, .int .i64 b.clock]] V fun e w' => e = .returned (.bool (regB l1 b)) ∧ Below V.heap.size V w') := hide (fun V => iRegFits s0 s1 _ s3 s4 l0 l1 l2 l3 l4 c0 c1 c2 c3 c4 b ai b.inp.length ci V hsz hl1)
      have HAH : Hid (lutB N ⟨b.inp, b.table⟩ = true → ∀ V, Below w.heap.size w V → Calls Tryz.prog 82 #[.agg #[.slice s0 l0 c0, .slice s1 l1 c1, .slice (some ⟨b2, o2, none⟩) l2 c2, .slice s3 l3 c3, .slice s4 l4 c4], .int .i64 (k : Int)] V fun e w' => e = .returned (.bool (aheadB l0 bs k b.inp)) ∧ Below V.heap.size V w') := hide (fun hp V hV => by
        have h := lutB_parts hp
        exact iAhead s0 s1 _ s3 s4 l0 l1 l2 l3 l4 c0 c1 c2 c3 c4 bs k b hx V hl0 (unhide HLB) h.1 (fun x hx => by have h1 := h.2 x hx; have h2 := unhide HNb; rw [h2]; exact h1) (unhide HH2 V hV))
      have HBK : Hid (blkB l0 bs l1 k b = (lutB N ⟨b.inp, b.table⟩ && regB l1 b && (b.reg || aheadB l0 bs k b.inp))) := hide (by unfold blkB; rw [unhide HNb])
      have z0 := cell_later (btr (unhide HW) hbw) (hcell 0 _ rfl)
      have z1 := cell_later (btr (unhide HW) hbw) (hcell 1 _ rfl)
      have z2 := cell_later (btr (unhide HW) hbw) (hcell 2 _ rfl)
      have z3 := cell_later (btr (unhide HW) hbw) (hcell 3 _ rfl)
      have z4 := cell_later (btr (unhide HW) hbw) (hcell 4 _ rfl)
      have z5 := cell_later (btr (unhide HW) hbw) (hcell 5 _ rfl)
      simp only [Nat.add_zero] at z0
      generalize b.inp.length = m at *
      have i1 : (0 : Int) ≤ (k : Int) := by omega
      have i2 : (k : Int) < (l2 : Int) := by omega
      obtain ⟨V1, hV1⟩ : ∃ V1, V1 = wr.alloc (.cells #[.string b.name, .slice ai m ci, .int .i64 b.table, .bool b.reg, .int .i64 b.init, .int .i64 b.clock] 66) := ⟨_, rfl⟩
      have HC2 : Hid (∀ V, Below V1.heap.size V1 V → V.cell? ⟨wr.heap.size, 0, none⟩ = some (.string b.name) ∧ V.cell? ⟨wr.heap.size, 1, none⟩ = some (.slice ai m ci) ∧ V.cell? ⟨wr.heap.size, 2, none⟩ = some (.int .i64 b.table) ∧ V.cell? ⟨wr.heap.size, 3, none⟩ = some (.bool b.reg) ∧ V.cell? ⟨wr.heap.size, 4, none⟩ = some (.int .i64 b.init) ∧ V.cell? ⟨wr.heap.size, 5, none⟩ = some (.int .i64 b.clock)) := hide (fun V hb => by
        rw [hV1] at hb
        exact ⟨cell_later hb (by rw [World.cell?_alloc_new]; rfl), cell_later hb (by rw [World.cell?_alloc_new]; rfl), cell_later hb (by rw [World.cell?_alloc_new]; rfl), cell_later hb (by rw [World.cell?_alloc_new]; rfl), cell_later hb (by rw [World.cell?_alloc_new]; rfl), cell_later hb (by rw [World.cell?_alloc_new]; rfl)⟩)
      have HB2 : Hid (Below W.heap.size W V1) := hide (by rw [hV1]; exact bal hbw _)
      have HBv : Hid (Below w.heap.size w V1) := hide (btr (unhide HW) (unhide HB2))
      have HV1 := hide hV1
      clear hrs hcell hx hmem hbw hV1 hkl hsz
      generalize lutB N ⟨b.inp, b.table⟩ = p1 at *
      generalize regB l1 b = p2 at *
      generalize aheadB l0 bs k b.inp = p3 at *
      generalize blkB l0 bs l1 k b = BB at *
      go_wp2
      rw [← unhide HV1]
      clear z0 z1 z2 z3 z4 z5
      refine wp_plan (GF (FBK s0 s1 (some ⟨b2, o2, none⟩) s3 s4 l0 l1 l2 l3 l4 c0 c1 c2 c3 c4 N b ai m ci p1 p2)) (JB V1) (by kernel_rfl) 35 (by kernel_rfl) (by kernel_rfl) ?hj ?hs ?hf
      case hj => exact bdr (brf V1)
      case hs =>
        refine ⟨?_, ?_, ?_, ?_, ?_, ?_, ?_, ?_, ?_, ?_, ?_, ?_, trivial⟩
        · exact st_val rfl (fun l a V hp ha => ⟨.agg #[.string b.name, .slice ai m ci, .int .i64 b.table, .bool b.reg, .int .i64 b.init, .int .i64 b.clock], by
            have x4 := (ev_form a 4).trans (old hp 4 (v := .pointer (some ⟨wr.heap.size, 0, none⟩)) (by kernel_rfl) (by kernel_rfl))
            obtain ⟨y0, y1, y2, y3, y4, y5⟩ := unhide HC2 V hp.j
            go_simp, rfl⟩)
        · exact st_call (f := 79) rfl (fun l a V hp ha => ⟨#[.agg #[.string b.name, .slice ai m ci, .int .i64 b.table, .bool b.reg, .int .i64 b.init, .int .i64 b.clock]], by
            have x13 := (ev_form a 13).trans (show a.eval (.tmp 13) = .agg #[.string b.name, .slice ai m ci, .int .i64 b.table, .bool b.reg, .int .i64 b.init, .int .i64 b.clock] from kn hp ha 13 0 (by kernel_rfl) (by kernel_rfl))
            go_simp, (iLut _ _ _ _ _ _ V ai m ci rfl).mono (by rintro e V1 ⟨rfl, hb⟩; exact ⟨_, rfl, rfl, hb⟩)⟩)
        · exact st_val rfl (fun l a V hp ha => ⟨.agg #[.slice s0 l0 c0, .slice s1 l1 c1, .slice (some ⟨b2, o2, none⟩) l2 c2, .slice s3 l3 c3, .slice s4 l4 c4], by
            have x1 := (ev_form a 1).trans (old hp 1 (v := .pointer (some ⟨w.heap.size, 0, none⟩)) (by kernel_rfl) (by kernel_rfl))
            obtain ⟨q0, q1, q2, q3, q4⟩ := unhide HC1 V (btr (unhide HB2) hp.j)
            go_simp, rfl⟩)
        · exact st_call (f := 67) rfl (fun l a V hp ha => ⟨#[.agg #[.slice s0 l0 c0, .slice s1 l1 c1, .slice (some ⟨b2, o2, none⟩) l2 c2, .slice s3 l3 c3, .slice s4 l4 c4]], by
            have x15 := (ev_form a 15).trans (show a.eval (.tmp 15) = .agg #[.slice s0 l0 c0, .slice s1 l1 c1, .slice (some ⟨b2, o2, none⟩) l2 c2, .slice s3 l3 c3, .slice s4 l4 c4] from kn hp ha 15 2 (by kernel_rfl) (by kernel_rfl))
            go_simp, (unhide HSO V).mono (by rintro e V1 ⟨rfl, hb⟩; exact ⟨_, rfl, rfl, hb⟩)⟩)
        · exact st_call (f := 80) rfl (fun l a V hp ha => ⟨#[.agg #[.slice ai m ci, .int .i64 b.table], .int .i64 (N : Int)], by
            have x14 := (ev_form a 14).trans (show a.eval (.tmp 14) = .agg #[.slice ai m ci, .int .i64 b.table] from kn hp ha 14 1 (by kernel_rfl) (by kernel_rfl))
            have x16 := (ev_form a 16).trans (show a.eval (.tmp 16) = .int .i64 (N : Int) from kn hp ha 16 3 (by kernel_rfl) (by kernel_rfl))
            go_simp, (unhide HFI V (btr (unhide HBv) hp.j)).mono (by rintro e V1 ⟨rfl, hb⟩; exact ⟨_, rfl, rfl, hb⟩)⟩)
        · exact st_val rfl (fun l a V hp ha => ⟨.bool (!p1), by
            have x17 := (ev_form a 17).trans (show a.eval (.tmp 17) = .bool p1 from kn hp ha 17 4 (by kernel_rfl) (by kernel_rfl))
            go_simp, rfl⟩)
        · exact st_val rfl (fun l a V hp ha => ⟨.bool (!p1), by
            have x18 := (ev_form a 18).trans (show a.eval (.tmp 18) = .bool (!p1) from kn hp ha 18 5 (by kernel_rfl) (by kernel_rfl))
            go_simp, rfl⟩)
        · exact st_valg (c := (!p1)) rfl rfl (by simp) (by kernel_rfl) (fun v h => h) (fun hn hc => absurd hc hn) (fun l a V hp ha hc => ⟨.agg #[.slice s0 l0 c0, .slice s1 l1 c1, .slice (some ⟨b2, o2, none⟩) l2 c2, .slice s3 l3 c3, .slice s4 l4 c4], by
            have x1 := (ev_form a 1).trans (old hp 1 (v := .pointer (some ⟨w.heap.size, 0, none⟩)) (by kernel_rfl) (by kernel_rfl))
            obtain ⟨q0, q1, q2, q3, q4⟩ := unhide HC1 V (btr (unhide HB2) hp.j)
            go_simp, fun _ => rfl⟩)
        · exact st_valg (c := (!p1)) rfl rfl (by simp) (by kernel_rfl) (fun v h => h) (fun hn hc => absurd hc hn) (fun l a V hp ha hc => ⟨.agg #[.string b.name, .slice ai m ci, .int .i64 b.table, .bool b.reg, .int .i64 b.init, .int .i64 b.clock], by
            have x4 := (ev_form a 4).trans (old hp 4 (v := .pointer (some ⟨wr.heap.size, 0, none⟩)) (by kernel_rfl) (by kernel_rfl))
            obtain ⟨y0, y1, y2, y3, y4, y5⟩ := unhide HC2 V hp.j
            go_simp, fun _ => rfl⟩)
        · exact st_callg (f := 81) (c := (!p1)) rfl rfl (by simp) (by kernel_rfl) (fun v h => h) (fun hn hc => absurd hc hn) (fun l a V hp ha hc => ⟨#[.agg #[.slice s0 l0 c0, .slice s1 l1 c1, .slice (some ⟨b2, o2, none⟩) l2 c2, .slice s3 l3 c3, .slice s4 l4 c4], .agg #[.string b.name, .slice ai m ci, .int .i64 b.table, .bool b.reg, .int .i64 b.init, .int .i64 b.clock]], by
            have x20 := (ev_form a 20).trans (show a.eval (.tmp 20) = .agg #[.slice s0 l0 c0, .slice s1 l1 c1, .slice (some ⟨b2, o2, none⟩) l2 c2, .slice s3 l3 c3, .slice s4 l4 c4] from (kn hp ha 20 7 (by kernel_rfl) (by kernel_rfl)) hc)
            have x21 := (ev_form a 21).trans (show a.eval (.tmp 21) = .agg #[.string b.name, .slice ai m ci, .int .i64 b.table, .bool b.reg, .int .i64 b.init, .int .i64 b.clock] from (kn hp ha 21 8 (by kernel_rfl) (by kernel_rfl)) hc)
            go_simp, (unhide HRG V).mono (by rintro e V1 ⟨rfl, hb⟩; exact ⟨_, rfl, fun _ => rfl, hb⟩)⟩)
        · exact st_valg (c := (!p1)) rfl rfl (by simp) (by kernel_rfl) (fun v h => h) (fun hn hc => absurd hc hn) (fun l a V hp ha hc => ⟨.bool (!p2), by
            have x22 := (ev_form a 22).trans (show a.eval (.tmp 22) = .bool p2 from (kn hp ha 22 9 (by kernel_rfl) (by kernel_rfl)) hc)
            go_simp, fun _ => rfl⟩)
        · exact st_val rfl (fun l a V hp ha => ⟨.bool (!p1 || !p2), by
            have x19 := (ev_form a 19).trans (show a.eval (.tmp 19) = .bool (!p1) from kn hp ha 19 6 (by kernel_rfl) (by kernel_rfl))
            have y23 : (!p1) = false → a.eval (.tmp 23) = .bool (!p2) := kn hp ha 23 10 (by kernel_rfl) (by kernel_rfl)
            cases p1
            · rw [show (!false) = true from rfl] at x19
              go_simp
            · have x23 := (ev_form a 23).trans (y23 rfl)
              rw [show (!true) = false from rfl] at x19
              go_simp, rfl⟩)
      case hf =>
        intro l a V hp hall
        have hv := hp.good 11 _ 24 rfl rfl (hall 11 (by decide))
        have HBV := hide hp.j
        obtain ⟨us, rfl, hus⟩ := putAll_of [13, 14, 15, 16, 17, 18, 19, 20, 21, 22, 23, 24] hp.nt hp.df (fun t ht => hp.keep t (dstIn (by kernel_rfl) ht))
        have hv2 : us 24 = .bool (!p1 || !p2) := by rw [hus 24]; exact hv
        clear hp hall hv hus
        simp only [putAll, List.foldl, Act.put, List.setIfInBounds_toArray, List.set_cons_zero, List.set_cons_succ, hv2]
        obtain ⟨q0, q1, q2, q3, q4⟩ := unhide HC1 V (btr (unhide HB2) (unhide HBV))
        obtain ⟨y0, y1, y2, y3, y4, y5⟩ := unhide HC2 V (unhide HBV)
        cases p1
        · rw [show (!false || !p2) = true from rfl]
          go_wp2
          exact bodyPost_ret (v := .bool false) (by simp [results, Tryz.results59, go_sem]) rfl ⟨by rw [show RR = false from unhide HF (by rw [unhide HBK]; rfl)], btr (unhide HBv) (unhide HBV)⟩
        · cases p2
          · rw [show (!true || !false) = true from rfl]
            go_wp2
            exact bodyPost_ret (v := .bool false) (by simp [results, Tryz.results59, go_sem]) rfl ⟨by rw [show RR = false from unhide HF (by rw [unhide HBK]; rfl)], btr (unhide HBv) (unhide HBV)⟩
          · rw [show (!true || !true) = false from rfl]
            have HBK2 : Hid (BB = (b.reg || p3)) := hide (by rw [unhide HBK]; rfl)
            generalize b.reg = rg at *
            cases rg
            · cases p3
              · go_wp2_with fail
                refine (unhide HAH (by first | rfl | trivial) _ (btr (unhide HBv) (unhide HBV))).mono ?_
                rintro e V3 ⟨rfl, h⟩
                have HB3 := hide (btr (btr (unhide HBv) (unhide HBV)) h)
                clear h
                go_wp2_with fail
                exact bodyPost_ret (v := .bool false) (by simp [results, Tryz.results59, go_sem]) rfl ⟨by rw [show RR = false from unhide HF (by rw [unhide HBK2]; rfl)], unhide HB3⟩
              · go_wp2_with fail
                refine (unhide HAH (by first | rfl | trivial) _ (btr (unhide HBv) (unhide HBV))).mono ?_
                rintro e V3 ⟨rfl, h⟩
                have HB3 := hide (btr (btr (unhide HB2) (unhide HBV)) h)
                clear h
                go_wp2_with fail
                go_roundw
                case rel => exact ⟨k + 1, by omega, by go_num, by rw [unhide HST, unhide HA, unhide HBK2]; rfl, unhide HB3⟩
                case measure => simp [intOf]; omega
            · go_wp2_with fail
              go_roundw
              case rel => exact ⟨k + 1, by omega, by go_num, by rw [unhide HST, unhide HA, unhide HBK2]; rfl, btr (unhide HB2) (unhide HBV)⟩
              case measure => simp [intOf]; omega
    · obtain rfl : k = l2 := by omega
      have HB := hide (btr (unhide HW) hbw)
      clear hbw HCS HH2 HIN
      go_wp2
      exact bodyPost_ret (v := .bool true) (by simp [results, Tryz.results59, go_sem]) rfl ⟨by rw [unhide HR, unhide HA], unhide HB⟩
end Go.Proofs.YtdmmbhemmbgcpabGreat
