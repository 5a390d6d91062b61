/- The program's links: the rows pushed, one a source. -/
import Derived.Test.YtlldfaniddbjaaaGreatDoorGRW7
import Derived.Test.YtlldfaniddbjaaaGreatDoorGPE
import Derived.Test.YtlldfaniddbjaaaGreatDoorRS5
namespace Go.Proofs.YtlldfaniddbjaaaGreatDoor
open Go Go.RowKit Gs
set_option linter.unusedVariables false
set_option linter.unusedSimpArgs false
set_option maxRecDepth 100000
set_option maxHeartbeats 16000000
theorem info29 : (Tryz.prog.info? 29).map (fun i => (i.zero, i.size, i.bytes)) = some (some (.slice none 0 0), 1, 24) := by kernel_rfl
theorem OP.keep {B : Nat} {v : Value} {xs : List Port} {W W' : World} (h : OP B W v xs) (hk : Kt W W') : OP B W' v xs := ⟨ownsRow_keep h.1 (fun g o _ hc => hk g o 106 (by decide) (by decide) hc), h.2⟩
theorem OP.cells {B : Nat} {v : Value} {xs : List Port} {W : World} (h : OP B W v xs) (hl : xs.length ≤ 4194304) {k : Nat} {e : Port} (hk : xs[k]? = some e) : ∃ b o c, v = .slice (some ⟨b, o, none⟩) xs.length c ∧ W.cell? ⟨b, o + k * 2, none⟩ = some (.string e.name) ∧ W.cell? ⟨b, o + k * 2 + 1, none⟩ = some (.int .i64 e.src) := by
  have hr := h.any hl
  obtain ⟨a1, d1, hv⟩ := hr.slice
  rw [hv] at hr
  rcases hr.open with ⟨rfl, _⟩ | ⟨b2, o2, c2', hv2, hcc, hnm, _, hcs⟩
  · simp at hk
  injection hv2 with e1 e2 e3
  obtain ⟨u, hul, hat, hus, hsz⟩ := hcs k e hk
  subst hus
  exact ⟨b2, o2, d1, by rw [hv, e1], hat.get (j := 0) rfl, hat.get (j := 1) rfl⟩
theorem block_six {w : World} {bs : List Block} {s : Option Addr} {n c : Nat} (h : RS 6 RBlock w 0 bs (.slice s n c)) {k : Nat} {b : Block} (hk : bs[k]? = some b) : ∃ b2 o2 ai ci, s = some ⟨b2, o2, none⟩ ∧ RS 1 RInt w 0 b.inp (.slice ai b.inp.length ci) ∧ (∀ j y, [.string b.name, .slice ai b.inp.length ci, .int .i64 b.table, .bool b.reg, .int .i64 b.init, .int .i64 b.clock][j]? = some y → w.cell? ⟨b2, o2 + k * 6 + j, none⟩ = some y) := by
  rcases h.open with ⟨rfl, _⟩ | ⟨b2, o2, c2', hv, hcc, hnm, _, hcs⟩
  · simp at hk
  injection hv with e1 e2 e3
  obtain ⟨u, hul, hat, v1, hus, hsz, hrs⟩ := hcs k b hk
  obtain ⟨ai, ci, rfl⟩ := hrs.slice
  subst hus
  exact ⟨b2, o2, ai, ci, e1, hrs, fun j y hj => hat j y hj⟩
theorem LR.box1 {B b : Nat} {W V w3 : World} {xs : List (List Int)} {v : Value} {us : List T3} (h : LR B b W xs v us) (hb : Below W.heap.size W V) (hg : V.grownBy w3 v.ownBlock) : w3.cell? ⟨b, 0, none⟩ = some v ∧ w3.frozen? ⟨b, 0, none⟩ = false := by
  have h0 := (hb.block b (heap_lt h.bx)).trans h.bx
  have h1 : w3.heap[b]? = some (.cells #[v] 79) := (hg.block b (heap_lt h0) (fun e => by
    obtain ⟨o', ho'⟩ := own_ty h.out e.symm
    exact ty_ne ho' h.bx (by decide) rfl)).trans h0
  exact ⟨by simp [World.cell?, h1], by simp [World.frozen?, h1]⟩
theorem LR.start (X : World) : LR X.heap.size X.heap.size (X.alloc (.cells #[.slice none 0 0] 79)) (lkX 0 []) (.slice none 0 0) [] :=
  ⟨by show (X.heap.push _)[X.heap.size]? = _; rw [Array.getElem?_push_size], by simp [lkX], OW.nil, fun i x t hx ht => by simp at ht, fun i j t t' k ht => by simp at ht⟩
def FLk (s0 s1 s2 s3 s4 : Option Addr) (l0 l1 l2 l3 l4 c0 c1 c2 c3 c4 : Nat) (N M B s k r : Nat) : Nat → Value → Prop
  | 0, v => v = .func (.func 89) #[] #[.pointer (some ⟨B, 0, none⟩)]
  | 1, v => v = .pointer (some ⟨M, 1, none⟩)
  | 2, v => v = .int .i64 (s : Int)
  | 3, v => v = .agg #[.slice s0 l0 c0, .slice s1 l1 c1, .slice s2 l2 c2, .slice s3 l3 c3, .slice s4 l4 c4]
  | 4, v => v = .int .i64 (N : Int)
  | 5, v => v = .int .i64 (k : Int)
  | 6, v => v = .int .i64 (r : Int)
  | 7, v => v = .tuple #[]
  | _, _ => True
theorem iLinks (s0 s1 s2 s3 s4 : Option Addr) (l0 l1 l2 l3 l4 c0 c1 c2 c3 c4 : Nat) (bs : List Block) (xs3 xs4 : List Port) (w : World) (hl0 : l0 ≤ 1048576) (hl2 : l2 ≤ 1048576) (hl3 : xs3.length ≤ 1048576) (hl4 : xs4.length ≤ 1048576) (hbl : ∀ k, (psB l0 bs k).length ≤ 1048576)
    (h2 : RS 6 RBlock w 0 bs (.slice s2 l2 c2)) (h3 : RS 2 RPort w 0 xs3 (.slice s3 l3 c3)) (h4 : RS 2 RPort w 0 xs4 (.slice s4 l4 c4)) (hB : ∀ b ∈ bs, b.inp.length ≤ 1048576 ∧ ∀ s ∈ b.inp, ∃ m : Nat, s = (m : Int) ∧ m < l0 + l2) (hE : ∀ e ∈ xs3 ++ xs4, ∃ m : Nat, e.src = (m : Int) ∧ m < l0 + l2) :
    Calls Tryz.prog 60 #[.agg #[.slice s0 l0 c0, .slice s1 l1 c1, .slice s2 l2 c2, .slice s3 l3 c3, .slice s4 l4 c4]] w fun e w' => (∃ v us, e = .returned v ∧ LR (w.heap.size + 1) (w.heap.size + 1) w' (lkX (l0 + l2) (psB l0 bs l2 ++ psE (l0 + l2) (xs3 ++ xs4) (xs3 ++ xs4).length)) v us) ∧ Below w.heap.size w w' := by
  have hln : l2 = bs.length := by
    obtain ⟨a, c, hv, _⟩ := h2
    injection hv with e1 e2 e3
  have HEN := hide (fun (V : World) (hV : Below w.heap.size w V) => (iEnds s0 s1 s2 s3 s4 l0 l1 l2 l3 l4 c0 c1 c2 c3 c4 xs3 xs4 V hl3 hl4 (h3.later RPort.keeps hV) (h4.later RPort.keeps hV)))
  have HIN := hide (fun k b hk => block_six (k := k) (b := b) h2 hk)
  have HBS := hide hB
  have HES := hide hE
  have HBL := hide hbl
  have HLN := hide hln
  have HLE := hide (show (xs3 ++ xs4).length ≤ 2097152 by simp; omega)
  obtain ⟨N, hN⟩ : ∃ N : Nat, l0 + l2 = N := ⟨_, rfl⟩
  have HSO : Hid (∀ V : World, Calls Tryz.prog 33 #[.agg #[.slice s0 l0 c0, .slice s1 l1 c1, .slice s2 l2 c2, .slice s3 l3 c3, .slice s4 l4 c4]] V fun e w' => e = .returned (.int .i64 (N : Int)) ∧ Below V.heap.size V w') := hide (fun V => by
    rw [← hN]
    exact iSources s0 s2 l0 l2 c0 c2 _ _ _ V hl0 hl2)
  have hN2 : N ≤ 2097152 := by omega
  have HN := hide hN
  rw [hN] at HBS HES ⊢
  obtain ⟨es, hes⟩ : ∃ es, xs3 ++ xs4 = es := ⟨_, rfl⟩
  rw [hes] at HEN HES HLE ⊢
  clear hN hes h2 h3 h4 hB hE hbl hln
  obtain ⟨X, hX⟩ : ∃ X, X = w.alloc (.cells #[.slice s0 l0 c0, .slice s1 l1 c1, .slice s2 l2 c2, .slice s3 l3 c3, .slice s4 l4 c4] 37) := ⟨_, rfl⟩
  have HXB := hide (show Below w.heap.size w X by rw [hX]; exact bal (brf w) _)
  have HSX : Hid (X.heap.size = w.heap.size + 1) := hide (by rw [hX]; simp)
  have HFL : Hid (∀ V, Below X.heap.size X V → V.cell? ⟨w.heap.size, 0, none⟩ = some (.slice s0 l0 c0) ∧ V.cell? ⟨w.heap.size, 1, none⟩ = some (.slice s1 l1 c1) ∧ V.cell? ⟨w.heap.size, 2, none⟩ = some (.slice s2 l2 c2) ∧ V.cell? ⟨w.heap.size, 3, none⟩ = some (.slice s3 l3 c3) ∧ V.cell? ⟨w.heap.size, 4, none⟩ = some (.slice s4 l4 c4)) := hide (fun V hV => by
    rw [hX] at hV
    exact ⟨(new_cell hV rfl).1, (new_cell hV rfl).1, (new_cell hV rfl).1, (new_cell hV rfl).1, (new_cell hV rfl).1⟩)
  have HXX := hide hX
  have HST := hide (LR.start X)
  rw [unhide HSX] at HST
  obtain ⟨f0, f1, f2, f3, f4⟩ := unhide HFL (X.alloc (.cells #[.slice none 0 0] 79)) (bal (brf X) _)
  have HB0 := hide (bal (brf X) (.cells #[.slice none 0 0] 79))
  obtain ⟨X2, hX2⟩ : ∃ X2, X2 = X.alloc (.cells #[.slice none 0 0] 79) := ⟨_, rfl⟩
  rw [← hX2] at f0 f1 f2 f3 f4 HST HB0
  have hq : X2 = (w.alloc (.cells #[.slice s0 l0 c0, .slice s1 l1 c1, .slice s2 l2 c2, .slice s3 l3 c3, .slice s4 l4 c4] 37)).alloc (.cells #[.slice none 0 0] 79) := by rw [hX2, hX]
  have HX2 := hide hq
  clear hX hX2
  rw [hq] at f0 f1 f2 f3 f4
  clear hq
  go_enter Tryz.func60, Tryz.ntmps60
  go_wp2_with fail
  rw [← unhide HX2]
  clear f0 f1 f2 f3 f4
  refine (unhide HSO X2).mono ?_
  rintro e W1 ⟨rfl, hw1⟩
  have HLR0 := hide ((unhide HST).later hw1)
  have HBW1 := hide ((unhide HB0).trans (hw1.mono (unhide HB0).size))
  clear hw1
  go_wp2_with fail
  go_loopw [14] (fun i wr => ∃ k : Nat, k ≤ N ∧ i = .int .i64 k ∧ (∃ v us, LR (w.heap.size + 1) (w.heap.size + 1) wr (lkX k []) v us) ∧ Below X.heap.size X wr) (fun i _ => N - (intOf i).toNat)
  case atStart => exact ⟨0, Nat.zero_le _, rfl, ⟨_, _, unhide HLR0⟩, unhide HBW1⟩
  case round =>
    obtain ⟨k, hk, rfl, ⟨v, us, hL⟩, hb⟩ := hrel
    have HB := hide hb
    have HSZ := hide hb.size
    have HL := hide hL
    by_cases hlt : k < N
    · have hB1 : w.heap.size + 1 ≤ wr.heap.size := by have := unhide HSX; have := unhide HSZ; omega
      have HUS : Hid (us.length ≤ 2097152) := hide (by rw [hL.ln, lkX_len]; omega)
      have m0 : wr.cell? ⟨w.heap.size + 1, 0, none⟩ = some v := by simp [World.cell?, hL.bx]
      obtain ⟨va, vc, hvs, _⟩ := hL.out.slice
      obtain ⟨vl, hvl⟩ : ∃ vl, us.length = vl := ⟨_, rfl⟩
      rw [hvl] at hvs
      subst hvs
      have HRW : Hid (∀ j, (Value.slice va vl vc).ownBlock = some j → w.heap.size + 1 ≤ j) := hide (fun j hj => (World.ownsRow.lt hL.out j hj).1)
      clear hvl hL hb
      go_wp2_with (first
        | 
          (at_builtin; refine wpAppOne (α := T3) (.slice none 0 0) Tryz.underlying79 info29 rfl (by decide) (by decide) slC_len slC_one rfl _ _ rfl (w.heap.size + 1) (.slice va vl vc) us (some ⟨wr.heap.size, 0, none⟩, 1, 1) (wr.heap.size + 1) rfl ((unhide HL).out.later (bal (bal (brf _) _) _)) (by simp [go_sem]) (by have := new_at (wr.alloc (.cells #[.int .i64 (k : Int)] 3)) (slC (some ⟨wr.heap.size, 0, none⟩, 1, 1)) 29; rw [World.size_alloc] at this; exact this) (by have := unhide HUS; omega) (by simp; omega) ?_; intro v' w3 hown' hgrow; obtain ⟨m1, m2⟩ := (unhide HL).box1 (bal (bal (brf wr) (.cells #[.int .i64 (k : Int)] 3)) _) hgrow; have HP := hide ((unhide HL).push (s := (k : Int)) hB1 hown' hgrow); obtain ⟨va', vc', rfl, _⟩ := hown'.slice; clear hown')
        | fail)
      have R2 : Below X.heap.size X (w3.setCell ⟨w.heap.size + 1, 0, none⟩ (.slice va' (us.length + 1) vc')) := by
        have e := unhide HSX
        refine (below_grown (bal (bal (unhide HB) (.cells #[.int .i64 (k : Int)] 3)) (.cells #[slV (some ⟨wr.heap.size, 0, none⟩, 1, 1)] 29)) hgrow (by simp; omega) (fun j hj => by have := unhide HRW j hj; omega)).setCell (by show X.heap.size ≤ w.heap.size + 1; omega) _
      have HR2 := hide R2
      clear hgrow R2 m1 m2
      go_roundw
      case rel => exact ⟨k + 1, by omega, by go_num, ⟨_, _, by rw [← lkX_push]; have h := unhide HP; simp only [List.length_append, List.length_singleton] at h; exact h⟩, unhide HR2⟩
      case measure => simp [intOf]; omega
    · obtain rfl : N = k := by omega
      obtain ⟨f0, f1, f2, f3, f4⟩ := unhide HFL wr hb
      have HL1 := hide hL
      have HB1 := hide hb
      clear HB HSZ HL hL hb f0 f1 f3 f4
      go_wp2_with fail
      clear f2
      go_loopw [27] (fun i wr => ∃ k : Nat, k ≤ l2 ∧ i = .int .i64 k ∧ (∃ v us, LR (w.heap.size + 1) (w.heap.size + 1) wr (lkX N (psB l0 bs k)) v us) ∧ Below X.heap.size X wr) (fun i _ => l2 - (intOf i).toNat)
      case atStart => exact ⟨0, Nat.zero_le _, rfl, ⟨_, _, unhide HL1⟩, unhide HB1⟩
      case round =>
        clear HL1 HB1
        obtain ⟨k, hk, rfl, ⟨v, us, hL⟩, hb⟩ := hrel
        have HB := hide hb
        have HL := hide hL
        by_cases hlt : k < l2
        · have hkl : k < bs.length := by have := unhide HLN; omega
          have hx : bs[k]? = some bs[k] := List.getElem?_eq_getElem hkl
          have hmem : bs[k] ∈ bs := List.getElem_mem hkl
          generalize bs[k] = b at hx hmem
          obtain ⟨hil, hin⟩ := unhide HBS b hmem
          have HPU := hide (psB_put (n0 := l0) hx)
          obtain ⟨b2, o2, ai, ci, rfl, hrs, hcell⟩ := unhide HIN k b hx
          have z0 := cell_later (btr (unhide HXB) hb) (hcell 0 _ rfl)
          have z1 := cell_later (btr (unhide HXB) hb) (hcell 1 _ rfl)
          have z2 := cell_later (btr (unhide HXB) hb) (hcell 2 _ rfl)
          have z3 := cell_later (btr (unhide HXB) hb) (hcell 3 _ rfl)
          have z4 := cell_later (btr (unhide HXB) hb) (hcell 4 _ rfl)
          have z5 := cell_later (btr (unhide HXB) hb) (hcell 5 _ rfl)
          simp only [Nat.add_zero] at z0
          have HTA := hide (fun (i : Nat) (q : Int) (h : b.inp[i]? = some q) => tiles_at hrs i q h)
          have HIQ := hide hin
          obtain ⟨m, hm⟩ : ∃ m, b.inp.length = m := ⟨_, rfl⟩
          rw [hm] at z1 hrs hil HPU
          have HM := hide hm
          have HIL := hide hil
          have i1 : (0 : Int) ≤ (k : Int) := by omega
          have i2 : (k : Int) < (l2 : Int) := by omega
          obtain ⟨V1, hV1⟩ : ∃ V1, V1 = wr.alloc (.cells #[.string b.name, .slice ai m ci, .int .i64 b.table, .bool b.reg, .int .i64 b.init, .int .i64 b.clock] 104) := ⟨_, rfl⟩
          have HB2 : Hid (Below X.heap.size X V1) := hide (by rw [hV1]; exact bal hb _)
          have HL2 := hide (show LR (w.heap.size + 1) (w.heap.size + 1) V1 (lkX N (psB l0 bs k)) v us by rw [hV1]; exact hL.later (bal (brf wr) _))
          have HV1 := hide hV1
          clear hrs hcell hx hmem hb hV1 hkl hL HL hm hin hil
          go_wp2_with fail
          rw [← unhide HV1]
          clear z0 z1 z2 z3 z4 z5
          go_loopw [35] (fun i wr => ∃ j : Nat, j ≤ m ∧ i = .int .i64 j ∧ (∃ v us, LR (w.heap.size + 1) (w.heap.size + 1) wr (lkX N (psB l0 bs k ++ psI (l0 + k) b.inp j)) v us) ∧ Below X.heap.size X wr) (fun i _ => m - (intOf i).toNat)
          case atStart => exact ⟨0, Nat.zero_le _, rfl, ⟨_, _, by rw [show psI (l0 + k) b.inp 0 = [] from rfl, List.append_nil]; exact unhide HL2⟩, unhide HB2⟩
          case round =>
            clear HL2 HB2 HV1
            obtain ⟨j, hj, rfl, ⟨v, us, hL⟩, hb⟩ := hrel
            have HB := hide hb
            have HL := hide hL
            by_cases hlt2 : j < m
            · obtain ⟨sq, hx⟩ : ∃ q, b.inp[j]? = some q := ⟨_, List.getElem?_eq_getElem (by rw [unhide HM]; exact hlt2)⟩
              obtain ⟨s, hs, hsN⟩ := unhide HIQ sq (List.mem_of_getElem? hx)
              subst hs
              obtain ⟨nb, no, hai, hnc⟩ := unhide HTA j _ hx
              subst hai
              have n0 := cell_later (btr (unhide HXB) hb) hnc
              have HPI := hide (psI_put (m := l0 + k) hx)
              have HSN := hide hsN
              have HPL : Hid ((psB l0 bs k ++ psI (l0 + k) b.inp j).length ≤ 4194000) := hide (by
                have h1 := unhide HBL k
                have h2 := psI_len (l0 + k) b.inp j
                have h3 := unhide HIL
                rw [List.length_append]; omega)
              have HSB : Hid (w.heap.size + 1 ≤ wr.heap.size) := hide (by have := unhide HSX; have := hb.size; omega)
              have HB' : Hid (Below (w.heap.size + 1) X wr) := hide (by rw [← unhide HSX]; exact hb)
              obtain ⟨f0, f1, f2, f3, f4⟩ := unhide HFL wr hb
              have j1 : (0 : Int) ≤ (j : Int) := by omega
              have j2 : (j : Int) < (m : Int) := by omega
              obtain ⟨r, hr⟩ : ∃ r, l0 + k = r := ⟨_, rfl⟩
              have q : (l0 : Int) + (k : Int) = (r : Int) := by omega
              have hr2 : r ≤ 2097152 := by omega
              have hmb := unhide HIL
              rw [hr] at HPI HPU HPL HL
              have HR := hide hr
              clear hr hnc hx hL hb f1 f2 f3 f4
              go_wp2_with (first
                | (go_at_call 89; refine (iLinkS (r := (r : Int)) (unhide HL) (unhide HSN) (unhide HPL) (unhide HB') (unhide HSB)).mono ?_; rintro e W1 ⟨rfl, ⟨us', hL'⟩, hb', _⟩; have HL3 := hide hL'; have HB3 := hide hb'; clear hL' hb')
                | fail)
              clear n0 f0
              go_roundw
              case rel => exact ⟨j + 1, by omega, by go_num, ⟨_, _, by rw [unhide HR, unhide HPI, ← List.append_assoc]; exact unhide HL3⟩, by rw [unhide HSX]; exact unhide HB3⟩
              case measure => simp [intOf]; omega
            · obtain rfl : m = j := by omega
              rw [← unhide HPU] at hL
              have HL3 := hide hL
              have HB3 := hide hb
              clear hL hb HL HB
              go_wp2_with fail
              go_roundw
              case rel => exact ⟨k + 1, by omega, by go_num, ⟨_, _, unhide HL3⟩, unhide HB3⟩
              case measure => simp [intOf]; omega
        · obtain rfl : l2 = k := by omega
          obtain ⟨f0, f1, f2, f3, f4⟩ := unhide HFL wr hb
          clear hL hb
          go_wp2_with fail
          clear f0 f1 f2 f3 f4
          refine (unhide HEN wr (btr (unhide HXB) (unhide HB))).mono ?_
          rintro e W1 ⟨⟨v1, rfl, ho⟩, hb1⟩
          have HO0 := hide (show OP w.heap.size W1 v1 es from ⟨ho.1.low (by have := (unhide HXB).size; have := (unhide HB).size; omega), ho.2⟩)
          have HL0 := hide ((unhide HL).later hb1)
          have HB0 := hide ((unhide HB).trans (hb1.mono (unhide HB).size))
          have hrs := ho.any (show es.length ≤ 4194304 by have := unhide HLE; omega)
          obtain ⟨a1, d1, hv1⟩ := hrs.slice
          clear hrs ho hb1 HL HB
          subst hv1
          obtain ⟨L, hLL⟩ : ∃ L, es.length = L := ⟨_, rfl⟩
          have HLL := hide hLL
          have hL2 : L ≤ 2097152 := by have := unhide HLE; omega
          obtain ⟨v1, hv1⟩ : ∃ v1, v1 = Value.slice a1 es.length d1 := ⟨_, rfl⟩
          rw [← hv1] at HO0
          have HV1 := hide hv1
          clear hv1
          rw [hLL]
          clear hLL
          go_wp2_with fail
          go_loopw [52] (fun i wr => ∃ k : Nat, k ≤ L ∧ i = .int .i64 k ∧ (∃ v us, LR (w.heap.size + 1) (w.heap.size + 1) wr (lkX N (psB l0 bs l2 ++ psE N es k)) v us) ∧ OP w.heap.size wr v1 es ∧ Below X.heap.size X wr) (fun i _ => L - (intOf i).toNat)
          case atStart => exact ⟨0, Nat.zero_le _, rfl, ⟨_, _, by rw [psE, List.append_nil]; exact unhide HL0⟩, unhide HO0, unhide HB0⟩
          case round =>
            clear HL0 HO0 HB0
            obtain ⟨k, hk, rfl, ⟨v, us, hL⟩, ho, hb⟩ := hrel
            by_cases hlt : k < L
            · obtain ⟨e, hx⟩ : ∃ e, es[k]? = some e := ⟨_, List.getElem?_eq_getElem (by rw [unhide HLL]; exact hlt)⟩
              obtain ⟨s, hs, hsN⟩ := unhide HES e (List.mem_of_getElem? hx)
              obtain ⟨b2, o2, c2, hv, z0, z1⟩ := ho.cells (by have := unhide HLE; omega) hx
              rw [unhide HV1] at hv
              injection hv with hv1 hv2 hv3
              subst hv1 hv3
              rw [hs] at z1
              have HST := hide (psE_put (n := N) hx hs)
              have HPL : Hid ((psB l0 bs l2 ++ psE N es k).length ≤ 4194000) := hide (by
                have h1 := unhide HBL l2
                have h2 := psE_len N es k
                rw [List.length_append]; omega)
              have HSN := hide hsN
              obtain ⟨r, hr⟩ : ∃ r, N + k = r := ⟨_, rfl⟩
              have HQ : Hid ((N : Int) + (k : Int) = (r : Int) ∧ r ≤ 4194304) := hide (by omega)
              rw [hr] at HST
              have i1 : (0 : Int) ≤ (k : Int) := by omega
              have i2 : (k : Int) < (L : Int) := by omega
              obtain ⟨V1, hV1⟩ : ∃ V1, V1 = wr.alloc (.cells #[.string e.name, .int .i64 (s : Int)] 106) := ⟨_, rfl⟩
              have HC2 : Hid (∀ V, Below V1.heap.size V1 V → V.cell? ⟨wr.heap.size, 0, none⟩ = some (.string e.name) ∧ V.cell? ⟨wr.heap.size, 1, none⟩ = some (.int .i64 (s : Int))) := hide (fun V hb => by
                rw [hV1] at hb
                exact ⟨(new_cell hb rfl).1, (new_cell hb rfl).1⟩)
              have HB2 : Hid (Below X.heap.size X V1) := hide (by rw [hV1]; exact bal hb _)
              have HLV := hide (show LR (w.heap.size + 1) (w.heap.size + 1) V1 (lkX N (psB l0 bs l2 ++ psE N es k)) v us by rw [hV1]; exact hL.later (bal (brf wr) _))
              have HOV := hide (show OP w.heap.size V1 v1 es by rw [hV1]; exact ho.later (bal (brf wr) _))
              have HBS2 : Hid (∀ V, Below V1.heap.size V1 V → w.heap.size + 1 ≤ V.heap.size) := hide (fun V hV => by have := unhide HSX; have := (btr (unhide HB2) hV).size; omega)
              have HV1' := hide hV1
              clear hx hb hV1 hL ho hr hs hsN
              go_wp2_with fail
              rw [← unhide HV1']
              clear z0 z1
              refine wp_plan (GF (FLk s0 s1 s2 s3 s4 l0 l1 l2 l3 l4 c0 c1 c2 c3 c4 N wr.heap.size (w.heap.size + 1) s k r)) (JE V1 7 (fun w' => (∃ v us, LR (w.heap.size + 1) (w.heap.size + 1) w' (lkX N (psB l0 bs l2 ++ psE N es (k + 1))) v us) ∧ OP w.heap.size w' v1 es ∧ Below X.heap.size X w')) (by kernel_rfl) 67 (by kernel_rfl) (by kernel_rfl) ?hj ?hs ?hf
              case hj => exact JE.start (bdr (brf V1))
              case hs =>
                refine ⟨?_, ?_, ?_, ?_, ?_, ?_, ?_, ?_, trivial⟩
                · exact se_val (by decide) (by kernel_rfl) rfl (fun l a V hp hB ha => ⟨.func (.func 89) #[] #[.pointer (some ⟨w.heap.size + 1, 0, none⟩)], by
                    have x5 := (ev_form a 5).trans (old hp 5 (v := .func (.func 89) #[] #[.pointer (some ⟨w.heap.size + 1, 0, none⟩)]) (by kernel_rfl) (by kernel_rfl))
                    go_simp, rfl⟩)
                · exact se_valx (by decide) (fun l a w hp hu => (und hp (k := 2) (j := 7) (by kernel_rfl) (und hp (k := 1) (j := 2) (by kernel_rfl) hu))) rfl (fun l a V hp hB ha => ⟨.pointer (some ⟨wr.heap.size, 1, none⟩), by
                    have x11 := (ev_form a 11).trans (old hp 11 (v := .pointer (some ⟨wr.heap.size, 0, none⟩)) (by kernel_rfl) (by kernel_rfl))
                    go_simp, rfl⟩)
                · exact se_val (by decide) (by kernel_rfl) rfl (fun l a V hp hB ha => ⟨.int .i64 (s : Int), by
                    have x58 := (ev_form a 58).trans (show a.eval (.tmp 58) = .pointer (some ⟨wr.heap.size, 1, none⟩) from kn hp ha 58 1 (by kernel_rfl) (by kernel_rfl))
                    obtain ⟨y0, y1⟩ := unhide HC2 V hB
                    go_simp, rfl⟩)
                · exact se_valx (by decide) (fun l a w hp hu => (und hp (k := 4) (j := 7) (by kernel_rfl) (und hp (k := 3) (j := 4) (by kernel_rfl) hu))) rfl (fun l a V hp hB ha => ⟨.agg #[.slice s0 l0 c0, .slice s1 l1 c1, .slice s2 l2 c2, .slice s3 l3 c3, .slice s4 l4 c4], by
                    have x1 := (ev_form a 1).trans (old hp 1 (v := .pointer (some ⟨w.heap.size, 0, none⟩)) (by kernel_rfl) (by kernel_rfl))
                    obtain ⟨f0, f1, f2, f3, f4⟩ := unhide HFL V (btr (unhide HB2) hB)
                    go_simp, rfl⟩)
                · exact se_call (f := 33) (by decide) (by kernel_rfl) rfl (fun l a V hp hB ha => ⟨#[.agg #[.slice s0 l0 c0, .slice s1 l1 c1, .slice s2 l2 c2, .slice s3 l3 c3, .slice s4 l4 c4]], by
                    have x60 := (ev_form a 60).trans (show a.eval (.tmp 60) = .agg #[.slice s0 l0 c0, .slice s1 l1 c1, .slice s2 l2 c2, .slice s3 l3 c3, .slice s4 l4 c4] from kn hp ha 60 3 (by kernel_rfl) (by kernel_rfl))
                    go_simp, (unhide HSO V).mono (by rintro e V1 ⟨rfl, hb⟩; exact ⟨_, rfl, rfl, hb⟩)⟩)
                · exact se_valx (by decide) (fun l a w hp hu => (und hp (k := 6) (j := 7) (by kernel_rfl) (und hp (k := 5) (j := 6) (by kernel_rfl) hu))) rfl (fun l a V hp hB ha => ⟨.int .i64 (k : Int), by
                    have x10 := (ev_form a 10).trans (old hp 10 (v := .int .i64 (k : Int)) (by kernel_rfl) (by kernel_rfl))
                    go_simp, rfl⟩)
                · exact se_val (by decide) (by kernel_rfl) rfl (fun l a V hp hB ha => ⟨.int .i64 (r : Int), by
                    have x61 := (ev_form a 61).trans (show a.eval (.tmp 61) = .int .i64 (N : Int) from kn hp ha 61 4 (by kernel_rfl) (by kernel_rfl))
                    have x62 := (ev_form a 62).trans (show a.eval (.tmp 62) = .int .i64 (k : Int) from kn hp ha 62 5 (by kernel_rfl) (by kernel_rfl))
                    obtain ⟨q, qr⟩ := unhide HQ; have hw : IntKind.i64.wrap (r : Int) = (r : Int) := by (simp [IntKind.wrap, IntKind.signed, IntKind.bits]; omega)
                    go_simp, rfl⟩)
                · refine se_lcall (f := 89) rfl (fun l a V hp hB ha => ?_)
                  have x57 := (ev_form a 57).trans (show a.eval (.tmp 57) = .func (.func 89) #[] #[.pointer (some ⟨w.heap.size + 1, 0, none⟩)] from kn hp ha 57 0 (by kernel_rfl) (by kernel_rfl))
                  have x59 := (ev_form a 59).trans (show a.eval (.tmp 59) = .int .i64 (s : Int) from kn hp ha 59 2 (by kernel_rfl) (by kernel_rfl))
                  have x63 := (ev_form a 63).trans (show a.eval (.tmp 63) = .int .i64 (r : Int) from kn hp ha 63 6 (by kernel_rfl) (by kernel_rfl))
                  refine ⟨#[.int .i64 (s : Int), .int .i64 (r : Int), .pointer (some ⟨w.heap.size + 1, 0, none⟩)], by go_simp, (iLinkS ((unhide HLV).later hB) (unhide HSN) (unhide HPL) (show Below (w.heap.size + 1) X V by rw [← unhide HSX]; exact btr (unhide HB2) hB) (unhide HBS2 V hB)).mono ?_⟩
                  rintro e W2 ⟨rfl, ⟨us', hL'⟩, hb', hk'⟩
                  refine ⟨.tuple #[], rfl, rfl, ⟨v, us', ?_⟩, ((unhide HOV).later hB).keep hk', by rw [unhide HSX]; exact hb'⟩
                  rw [unhide HST, ← List.append_assoc]
                  exact hL'
              case hf =>
                intro l a W3 hp hall
                have hE := hp.j.2 (hall 7 (by decide))
                obtain ⟨us1, rfl, hus⟩ := putAll_of [57, 58, 59, 60, 61, 62, 63, 64] hp.nt hp.df (fun t ht => hp.keep t (dstIn (by kernel_rfl) ht))
                clear hp hall hus
                simp only [putAll, List.foldl, Act.put, List.setIfInBounds_toArray, List.set_cons_zero, List.set_cons_succ]
                obtain ⟨⟨v', us', hL'⟩, ho', hb'⟩ := hE
                have HL3 := hide hL'
                have HO3 := hide ho'
                have HB3 := hide hb'
                clear hL' ho' hb'
                go_wp2_with fail
                go_roundw
                case rel => exact ⟨k + 1, by omega, by go_num, ⟨_, _, unhide HL3⟩, unhide HO3, unhide HB3⟩
                case measure => simp [intOf]; omega
            · obtain rfl : L = k := by omega
              have m0 : wr.cell? ⟨w.heap.size + 1, 0, none⟩ = some v := by simp [World.cell?, hL.bx]
              obtain ⟨va, vc, hvs, _⟩ := hL.out.slice
              have HL3 := hide hL
              have HB3 := hide (btr (unhide HXB) hb)
              clear hL hb ho
              obtain ⟨vl, hvl⟩ : ∃ vl, us.length = vl := ⟨_, rfl⟩
              rw [hvl] at hvs
              subst hvs
              clear hvl
              go_wp2_with fail
              exact bodyPost_ret (v := _) (by simp [results, Tryz.results60, go_sem]) rfl ⟨⟨.slice va vl vc, us, rfl, by rw [unhide HLL]; exact unhide HL3⟩, unhide HB3⟩
end Go.Proofs.YtlldfaniddbjaaaGreatDoor
