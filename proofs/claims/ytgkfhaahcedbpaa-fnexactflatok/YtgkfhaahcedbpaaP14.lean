/- The program's FlatOK. -/
import Derived.Test.YtgkfhaahcedbpaaGLO
namespace Go.Proofs.Ytgkfhaahcedbpaa
open Go Go.RowKit Gs
set_option linter.unusedVariables false
set_option linter.unusedSimpArgs false
set_option maxRecDepth 100000

def procOK (sg : List Signal) (d : Nat) (p : Proc) : Bool := preP sg p && okSN sg (stOf p.kind) (setOf p.kind) (d + 1) 1 p.body
def checksOf (ps : List Proc) : List ByteArray := (ps.filter (fun p => decide (p.kind = 5))).map (·.name)
def cntP (d : Nat) (p : Proc) : Nat := cntSN (d + 1) p.body
def flatB (d : Nat) (f : Flat) : Bool := (decide (f.signals.length ≤ 256) && decide (f.procs.length ≤ 256)) && (f.signals.all sigFB && ((f.procs.all (procOK f.signals d) && decide ((f.procs.map (cntP d)).sum ≤ 16384)) && (decide (f.signals.map (·.name)).Nodup && decide (checksOf f.procs).Nodup)))
theorem OS.fx {B lb : Nat} {W V : World} {v : Value} {xs : List ByteArray} (h : OS B W v xs) (hb : Fx lb W V) (hl : lb < B ∨ W.heap.size ≤ lb) : OS B V v xs := by
  obtain ⟨⟨h1, h2 | ⟨g, cap, cur, hv, hg, hc, rest⟩⟩, h3⟩ := h
  · exact ⟨⟨h1, .inl h2⟩, h3⟩
  · have hlt := (Array.getElem?_eq_some_iff.1 hc).1
    exact ⟨⟨h1, .inr ⟨g, cap, cur, hv, hg, (hb.block g hlt (by omega)).trans hc, rest⟩⟩, h3⟩
theorem OS.any {B : Nat} {v : Value} {xs : List ByteArray} {W : World} (h : OS B W v xs) (hl : xs.length ≤ 4194304) : RS 1 RStr W 0 xs v := (h.read (by unfold maxLen; omega)).low RStr.lowers (Nat.zero_le _)
theorem Fx.belowS {lb : Nat} {X W V : World} (h : Fx lb X W) (hb : Below X.heap.size W V) : Fx lb X V :=
  ⟨hb.os.trans h.os, hb.tape.trans h.tape, hb.output.trans h.output, Nat.le_trans h.size hb.size, fun k hk hn => (hb.block k hk).trans (h.block k hk hn)⟩
theorem all_takeG {α : Type} {p : α → Bool} {xs : List α} {k : Nat} {x : α} (h : xs[k]? = some x) : (xs.take (k + 1)).all p = ((xs.take k).all p && p x) := by
  rw [List.take_add_one, h, List.all_append]; simp
theorem map_takeG {α β : Type} {f : α → β} {xs : List α} {k : Nat} {x : α} (h : xs[k]? = some x) : (xs.take (k + 1)).map f = (xs.take k).map f ++ [f x] := by
  rw [List.take_add_one, h, List.map_append]; rfl
theorem sum_takeG {α : Type} {f : α → Nat} {xs : List α} {k : Nat} {x : α} (h : xs[k]? = some x) : ((xs.take (k + 1)).map f).sum = ((xs.take k).map f).sum + f x := by
  rw [List.take_add_one, h]; simp
theorem sum_leG {α : Type} {f : α → Nat} (xs : List α) (j : Nat) : ((xs.take j).map f).sum ≤ (xs.map f).sum := by
  have : (xs.map f).sum = ((xs.take j).map f).sum + ((xs.drop j).map f).sum := by rw [← List.sum_append, ← List.map_append, List.take_append_drop]
  omega
set_option maxHeartbeats 32000000 in
theorem iFlatOK (d : Nat) (f : Flat) (u : List Value) (w : World) (hr : RFlatN d w 0 f u) :
    Calls Try.prog 7 #[.agg u.toArray] w fun e w' => e = .returned (.bool (flatB d f)) ∧ Below w.heap.size w w' := by
  obtain ⟨v0, v1, rfl, h0, h1⟩ := hr
  have hl0 := h0.len
  have hl1 := h1.len
  unfold maxLen at hl0 hl1
  have HR0 := hide h0
  have HR1 := hide h1
  obtain ⟨s0, c0, rfl⟩ := h0.slice
  obtain ⟨s1, c1, rfl⟩ := h1.slice
  have EQ : flatB d f = ((decide (f.signals.length ≤ 256) && decide (f.procs.length ≤ 256)) && (f.signals.all sigFB && ((f.procs.all (procOK f.signals d) && decide ((f.procs.map (cntP d)).sum ≤ 16384)) && (decide (f.signals.map (·.name)).Nodup && decide (checksOf f.procs).Nodup)))) := rfl
  rw [EQ]
  clear EQ h0 h1
  obtain ⟨sg, ps⟩ := f
  dsimp only at *
  obtain ⟨L0, hL0⟩ : ∃ L, sg.length = L := ⟨_, rfl⟩
  obtain ⟨L1, hL1⟩ : ∃ L, ps.length = L := ⟨_, rfl⟩
  have HB := hide (bal (brf w) (.cells #[.slice s0 L0 c0, .slice s1 L1 c1] 31))
  by_cases b0 : L0 ≤ 256
  rotate_left
  · have n0 : (256 : Int) < (L0 : Int) := by omega
    rw [hL0, hL1, decide_eq_false b0]
    rw [hL0] at hl0
    rw [hL1] at hl1
    clear HR0 HR1
    go_enter Try.func7, Try.ntmps7
    go_wp2_with fail
    exact bodyPost_ret (v := .bool false) (by simp [results, Try.results7, go_sem]) rfl ⟨rfl, unhide HB⟩
  by_cases b1 : L1 ≤ 256
  rotate_left
  · have n0 : ¬ (256 : Int) < (L0 : Int) := by omega
    have n1 : (256 : Int) < (L1 : Int) := by omega
    rw [hL0, hL1, decide_eq_false b1, Bool.and_false]
    rw [hL0] at hl0
    rw [hL1] at hl1
    clear HR0 HR1
    go_enter Try.func7, Try.ntmps7
    go_wp2_with fail
    exact bodyPost_ret (v := .bool false) (by simp [results, Try.results7, go_sem]) rfl ⟨rfl, unhide HB⟩
  have n0 : ¬ (256 : Int) < (L0 : Int) := by omega
  have n1 : ¬ (256 : Int) < (L1 : Int) := by omega
  have HCS := hide (fun j g hg => sig_cells (unhide HR0) j g hg)
  rw [hL0, hL1, decide_eq_true b0, decide_eq_true b1, Bool.and_self, Bool.true_and]
  rw [hL0] at hl0 HR0
  rw [hL1] at hl1 HR1
  have HL0 := hide hL0
  have HL1 := hide hL1
  clear hL0 hL1
  obtain ⟨X, hX⟩ : ∃ X, X = w.alloc (.cells #[.slice s0 L0 c0, .slice s1 L1 c1] 31) := ⟨_, rfl⟩
  rw [← hX] at HB
  have hXs : X.heap.size = w.heap.size + 1 := by rw [hX]; simp
  have HXS := hide hXs
  have HXC : Hid (∀ V, Below X.heap.size X V → V.cell? ⟨w.heap.size, 0, none⟩ = some (.slice s0 L0 c0) ∧ V.cell? ⟨w.heap.size, 1, none⟩ = some (.slice s1 L1 c1)) := hide (fun V hV => by
    refine ⟨?_, ?_⟩ <;> exact cell_later hV (by rw [hX, World.cell?_alloc_new]; rfl))
  have HX := hide hX
  clear hX hXs
  obtain ⟨i0, hi, hz0, hz1, hz2⟩ := info_parts info9
  go_enter Try.func7, Try.ntmps7
  go_wp2_with fail
  rw [← unhide HX]
  go_loopw [3, 23] (fun v i wr => ∃ j : Nat, j ≤ L0 ∧ i = .int .i64 j ∧ OS X.heap.size wr v ((sg.take j).map (·.name)) ∧ (sg.take j).all sigFB = true ∧ Below X.heap.size X wr) (fun _ i _ => L0 - (intOf i).toNat)
  case atStart => exact ⟨0, Nat.zero_le _, rfl, OS_nil _ _, rfl, brf _⟩
  case round =>
    obtain ⟨j, hj, rfl, hown, hall, hb⟩ := hrel
    by_cases hlt : j < L0
    · obtain ⟨g, hg⟩ : ∃ g, sg[j]? = some g := ⟨_, List.getElem?_eq_getElem (by rw [unhide HL0]; exact hlt)⟩
      obtain ⟨b, o, rfl, e0, e1, e2, e3, e4, e5, hs1, hs2⟩ := unhide HCS j g hg
      have HST := hide (map_takeG (f := fun x : Signal => x.name) hg)
      have HAT := hide (all_takeG (p := sigFB) hg)
      have HNO : Hid (sigFB g = false → sg.all sigFB = false) := hide (fun h => by
        rw [← Bool.not_eq_true]; intro h2
        have := List.all_eq_true.1 h2 g (List.mem_of_getElem? hg)
        rw [h] at this; cases this)
      have hlen : ((sg.take j).map (fun x : Signal => x.name)).length = j := by rw [List.length_map, List.length_take, unhide HL0]; omega
      have HLEN := hide hlen
      have HO := hide hown
      have HA := hide hall
      have hw0 := (unhide HB).trans (Below.mono hb (unhide HB).size)
      have k0 := cell_later hw0 e0
      have k1 := cell_later hw0 e1
      have k2 := cell_later hw0 e2
      have k3 := cell_later hw0 e3
      have k4 := cell_later hw0 e4
      have k5 := cell_later hw0 e5
      have HBR := hide hb
      have HN := hide hs1
      obtain ⟨Y, hY⟩ : ∃ Y, Y = wr.alloc (.cells #[.string g.name, .int .i64 g.kind, .int .i64 g.width, .int .i64 g.depth, .bool g.signed, .string g.init] 38) := ⟨_, rfl⟩
      have hbY : Below wr.heap.size wr Y := by rw [hY]; exact bal (brf wr) _
      have HC := hide (iSignalFits g.name g.init g.kind g.width g.depth g.signed Y hs1 hs2)
      have HYN := hide (show Y.cell? ⟨wr.heap.size, 0, none⟩ = some (.string g.name) from by rw [hY, World.cell?_alloc_new]; rfl)
      have HYB := hide (btr hb hbY)
      have HYO := hide (hown.later hbY)
      have hg' : (⟨g.name, g.kind, g.width, g.depth, g.signed, g.init⟩ : Signal) = g := rfl
      rw [hg'] at HC
      have HY := hide hY
      have i1 : (0 : Int) ≤ (j : Int) := by omega
      have i2 : (j : Int) < (L0 : Int) := by omega
      have hwz : w.heap.size < wr.heap.size := by have := hb.size; rw [unhide HXS] at this; omega
      clear hown hall hb hw0 e0 e1 e2 e3 e4 e5 hs1 hs2 hlen hbY hY hg' hg
      generalize sigFB g = SB at *
      generalize g.name = z0 at *
      generalize g.kind = z1 at *
      generalize g.width = z2 at *
      generalize g.depth = z3 at *
      generalize g.signed = z4 at *
      generalize g.init = z5 at *
      go_wp2_with fail
      rw [← unhide HY]
      refine (unhide HC).mono ?_
      rintro e V ⟨rfl, hb⟩
      have HVB := hide (btr (unhide HYB) hb)
      have HVO := hide ((unhide HYO).later hb)
      have m0 := cell_later hb (unhide HYN)
      clear hb HC k0 k1 k2 k3 k4 k5
      cases SB
      · have HRF : Hid (false = (sg.all sigFB && ((ps.all (procOK sg d) && decide ((ps.map (cntP d)).sum ≤ 16384)) && (decide (sg.map (·.name)).Nodup && decide (checksOf ps).Nodup)))) := hide (by rw [unhide HNO rfl]; rfl)
        have HBZ := hide ((unhide HB).trans (Below.mono (unhide HVB) (unhide HB).size))
        clear HCS HNO HST HAT HR0 HR1 HXC HLEN HA
        go_wp2_with fail
        exact bodyPost_ret (v := .bool false) (by simp [results, Try.results7, go_sem]) rfl ⟨ret_bool (unhide HRF), unhide HBZ⟩
      · have HA2 : Hid ((sg.take (j + 1)).all sigFB = true) := hide (by rw [unhide HAT, unhide HA]; rfl)
        have hsz : X.heap.size ≤ V.heap.size := (unhide HVB).size
        clear HNO HAT HA HYN HYO HYB HY HO HBR
        go_wp2_with (first
          | (at_builtin; refine wpList_append_own _ rfl _ _ 52 rfl X.heap.size 9 i0 (.string ByteArray.empty) 1 16 Try.underlying52 hi hz0 hz1 hz2 rfl (by decide) _ _ _ rfl ((unhide HVO).1.alloc _) ⟨V.heap.size, 0, none⟩ 1 1 [.string z0] rfl rfl (newS _ _ _ rfl) (oneS _) (by have := unhide HLEN; unfold maxLen; omega) (by have := unhide HLEN; omega) (by simp; omega) ?_; intro v' w2 hown' hgrow _)
          | go_in)
        have R1 : OS X.heap.size w2 v' ((sg.take (j + 1)).map (fun x : Signal => x.name)) := by
          rw [unhide HST]; exact OS.step hown' (unhide HVO).2 (unhide HN)
        have R2 := below_grown (bal (unhide HVB) (.cells #[.string z0] 9)) hgrow (by simp; omega) (own_row (unhide HVO).1)
        go_roundw
        case rel => exact ⟨j + 1, by omega, by go_num, R1, unhide HA2, R2⟩
        case measure => simp [intOf]; omega
    · obtain rfl : L0 = j := by omega
      obtain ⟨W1, rfl⟩ : ∃ W1, W1 = wr := ⟨wr, rfl⟩
      rw [List.take_of_length_le (by rw [unhide HL0]; exact Nat.le_refl _)] at hown hall
      have hwz : w.heap.size < W1.heap.size := by have := hb.size; rw [unhide HXS] at this; omega
      obtain ⟨x0, x1⟩ := unhide HXC W1 hb
      have hWB : Below w.heap.size w W1 := (unhide HB).trans (Below.mono hb (unhide HB).size)
      have HWB := hide hWB
      have HSG := hide ((unhide HR0).later RSignal.keeps hWB)
      have hsl : sg.length ≤ 1048576 := by rw [unhide HL0]; omega
      have HSL := hide hsl
      have hnl : (sg.map (fun x : Signal => x.name)).length ≤ 256 := by rw [List.length_map, unhide HL0]; omega
      have HOP := hide (fun (j : Nat) (p : Proc) (hp : ps[j]? = some p) (V : World) (hV : Below w.heap.size w V) => (show ∃ b o uk, s1 = some ⟨b, o, none⟩ ∧ L1 ≤ c1 ∧ RProcN d W1 0 p uk ∧ (∃ a' l' c' a'' l'' c'', uk = [.int .i64 p.kind, .int .i64 p.clock, .string p.name, .int .i64 p.body.kind, .int .i64 p.body.n, .int .i64 p.body.low, .int .i64 p.body.wide, .slice a' l' c', .slice a'' l'' c'']) ∧ p.name.size ≤ maxLen ∧ At V b (o + j * 9) uk from by
        rcases (unhide HR1).open with ⟨hnil, _⟩ | ⟨b, o, kc, e, hlc, _, _, hcs⟩
        · rw [hnil] at hp; simp at hp
        · obtain ⟨uk, _, hat, hu⟩ := hcs j p hp
          injection e with e1 e2 e3
          subst e1 e2 e3
          have hu2 := hu
          obtain ⟨v7, v8, e6, hn, h7, h8⟩ := hu
          obtain ⟨a', c', e8⟩ := h7.slice
          obtain ⟨a'', c'', e9⟩ := h8.slice
          exact ⟨b, o, uk, rfl, hlc, RProcN.keeps d _ _ _ _ _ (fun b o y _ hc => cell_later hWB hc) hu2, ⟨a', _, c', a'', _, c'', by rw [e6, e8, e9]⟩, hn, fun i z hz => cell_later hV (hat i z hz)⟩))
      have HZB := hide (bal (brf W1) (.cells #[.slice s0 L0 c0, .int .i64 16384] 56))
      have HZF := hide (Fx.of (g := W1.heap.size) (unhide HZB))
      have HZP := hide (show Pl W1.heap.size (.slice s0 L0 c0) 56 (W1.alloc (.cells #[.slice s0 L0 c0, .int .i64 16384] 56)) (16384 : Nat) from by
        show (W1.heap.push _)[W1.heap.size]? = some _
        rw [Array.getElem?_push_size]; rfl)
      have HXC2 := hide (fun V hV => (unhide HXC V hV).2)
      have HZX := hide (cell_later (unhide HZB) x1)
      have HNM := hide (fun V (hV : Fx W1.heap.size W1 V) => hown.fx hV (.inr (Nat.le_refl _)))
      have HALL := hide hall
      obtain ⟨Z, hZ⟩ : ∃ Z, Z = W1.alloc (.cells #[.slice s0 L0 c0, .int .i64 16384] 56) := ⟨_, rfl⟩
      rw [← hZ] at HZB HZF HZP HZX
      have hZs : Z.heap.size = W1.heap.size + 1 := by rw [hZ]; simp
      have HZS := hide hZs
      have HZ := hide hZ
      have HBX := hide hb
      clear hown hall hb hWB hZ hZs HCS HR0 HR1 HXC HX hsl
      go_wp2_with fail
      rw [← unhide HZ]
      have z1 := unhide HZX
      go_wp2_with fail
      clear z1 x0 x1
      go_loopw [4, 43] (fun v i wr => ∃ j : Nat, j ≤ L1 ∧ i = .int .i64 j ∧ OS (W1.heap.size + 1) wr v (checksOf (ps.take j)) ∧ (ps.take j).all (procOK sg d) = true ∧ (∃ m : Nat, m + ((ps.take j).map (cntP d)).sum = 16384 ∧ Pl W1.heap.size (.slice s0 L0 c0) 56 wr (m : Int)) ∧ Fx W1.heap.size Z wr) (fun _ i _ => L1 - (intOf i).toNat)
      case atStart => exact ⟨0, Nat.zero_le _, rfl, OS_nil _ _, rfl, ⟨16384, by simp, unhide HZP⟩, Fx.refl _ _⟩
      case round =>
        obtain ⟨j, hj, rfl, hown, hall, ⟨m, hm, hp⟩, hfx⟩ := hrel
        have HO := hide hown
        have HA := hide hall
        have HM0 := hide hm
        have HPB := hide hp
        have HFX := hide hfx
        have HBR := hide (Fx.below (unhide HZB) hfx (Nat.le_refl _) (unhide HZB).size)
        clear hown hall hm hp hfx
        by_cases hlt : j < L1
        · obtain ⟨p, hp⟩ : ∃ p, ps[j]? = some p := ⟨_, List.getElem?_eq_getElem (by rw [unhide HL1]; exact hlt)⟩
          obtain ⟨b, o, uk, rfl, hlc, hru, ⟨a', l', c', a'', l'', c'', hue⟩, hns, hat⟩ := unhide HOP j p hp wr (btr (unhide HWB) (unhide HBR))
          obtain ⟨Y, hY⟩ : ∃ Y, Y = wr.alloc (.cells uk.toArray 48) := ⟨_, rfl⟩
          have hbY : Below wr.heap.size wr Y := by rw [hY]; exact bal (brf wr) _
          have hm0 := unhide HM0
          have hfY := (unhide HFX).trans (Fx.of hbY)
          have HC := hide (iProc sg W1 _ 56 d (unhide HSG) (unhide HSL) p uk m Y hru (by omega) ((unhide HPB).later hbY) (Fx.below (unhide HZB) hfY (Nat.le_refl _) (unhide HZB).size))
          subst hue
          have HFY := hide hfY
          have hZs := unhide HZS
          have hvs := (unhide HFX).size
          have HYN := hide (show (∀ V, Fx W1.heap.size Y V → V.cell? ⟨wr.heap.size, 0, none⟩ = some (.int .i64 p.kind)) ∧ (∀ V, Fx W1.heap.size Y V → V.cell? ⟨wr.heap.size, 2, none⟩ = some (.string p.name)) from by
            refine ⟨fun V hV => hV.cell ?_ (by omega), fun V hV => hV.cell ?_ (by omega)⟩ <;> (rw [hY, World.cell?_alloc_new]; rfl))
          have HYO := hide ((unhide HO).later hbY)
          have HY := hide hY
          have k0 := hat.get (j := 0) rfl
          have k1 := hat.get (j := 1) rfl
          have k2 := hat.get (j := 2) rfl
          have k3 := hat.get (j := 3) rfl
          have k4 := hat.get (j := 4) rfl
          have k5 := hat.get (j := 5) rfl
          have k6 := hat.get (j := 6) rfl
          have k7 := hat.get (j := 7) rfl
          have k8 := hat.get (j := 8) rfl
          simp only [Nat.add_zero] at k0
          have HST := hide (sum_takeG (f := cntP d) hp)
          have HSS := hide (sum_leG (f := cntP d) ps (j + 1))
          have HAT := hide (all_takeG (p := procOK sg d) hp)
          have HNO : Hid (procOK sg d p = false → ps.all (procOK sg d) = false) := hide (fun h => by
            rw [← Bool.not_eq_true]; intro h2
            have := List.all_eq_true.1 h2 p (List.mem_of_getElem? hp)
            rw [h] at this; cases this)
          have HCH : Hid (checksOf (ps.take (j + 1)) = if p.kind = 5 then checksOf (ps.take j) ++ [p.name] else checksOf (ps.take j)) := hide (by
            unfold checksOf
            rw [List.take_add_one, hp, List.filter_append, List.map_append]
            by_cases h5 : p.kind = 5 <;> simp [h5])
          have HCL : Hid ((checksOf (ps.take j)).length ≤ 256) := hide (by
            unfold checksOf
            rw [List.length_map]
            refine Nat.le_trans (List.length_filter_le _ _) ?_
            rw [List.length_take, unhide HL1]; omega)
          have HNS := hide hns
          have hdef : (preP sg p && okSN sg (stOf p.kind) (setOf p.kind) (d + 1) 1 p.body) = procOK sg d p := rfl
          have hdc : cntSN (d + 1) p.body = cntP d p := rfl
          unfold PrPost at HC
          rw [hdef, hdc] at HC
          have i1 : (0 : Int) ≤ (j : Int) := by omega
          have i2 : (j : Int) < (L1 : Int) := by omega
          clear hat hru hp hm0 hfY hbY hY hns hdef hdc
          generalize procOK sg d p = SB at *
          generalize cntP d p = cy at *
          generalize p.kind = z0 at *
          generalize p.clock = z1 at *
          generalize p.name = z2 at *
          generalize p.body = bd at *
          go_wp2_with fail
          rw [← unhide HY]
          refine (unhide HC).mono ?_
          rintro e V ⟨r, kk, rfl, hr, hrk, hpv, hfv⟩
          have HR := hide hr
          have HRK := hide hrk
          have HPV := hide hpv
          have HFV := hide ((unhide HFY).trans hfv)
          have HVO := hide ((unhide HYO).fx hfv (.inl (Nat.lt_succ_self _)))
          have m0 := (unhide HYN).1 V hfv
          have m2 := (unhide HYN).2 V hfv
          clear hr hrk hpv hfv HC k0 k1 k2 k3 k4 k5 k6 k7 k8
          cases r
          · have HRF : Hid (false = (sg.all sigFB && ((ps.all (procOK sg d) && decide ((ps.map (cntP d)).sum ≤ 16384)) && (decide (sg.map (·.name)).Nodup && decide (checksOf ps).Nodup)))) := hide (by
              symm
              have h := (unhide HR).symm
              rw [Bool.and_eq_false_iff] at h
              rcases h with h | h
              · rw [unhide HNO h]; simp
              · have h1 := of_decide_eq_false h
                have h2 := unhide HST
                have h3 := unhide HSS
                have h4 := unhide HM0
                rw [decide_eq_false (p := (ps.map (cntP d)).sum ≤ 16384) (by omega)]; simp)
            have HBZ := hide ((unhide HWB).trans (Below.mono (Fx.below (unhide HZB) (unhide HFV) (Nat.le_refl _) (unhide HZB).size) (unhide HWB).size))
            clear HR HRK HNO HST HSS HAT HCH HCL HYN HYO HY HOP HSG HSL HNM HALL HXC2 HA
            go_wp2_with fail
            exact bodyPost_ret (v := .bool false) (by simp [results, Try.results7, go_sem]) rfl ⟨ret_bool (unhide HRF), unhide HBZ⟩
          · have HA2 : Hid ((ps.take (j + 1)).all (procOK sg d) = true) := hide (by
              have h := (unhide HR).symm
              rw [Bool.and_eq_true] at h
              rw [unhide HAT, unhide HA, h.1]; rfl)
            have HM2 : Hid (∃ m' : Nat, m' + ((ps.take (j + 1)).map (cntP d)).sum = 16384 ∧ Pl W1.heap.size (.slice s0 L0 c0) 56 V (m' : Int)) := hide (by
              have h := (unhide HR).symm
              rw [Bool.and_eq_true] at h
              have h1 := of_decide_eq_true h.2
              have h4 := unhide HM0
              have h2 := unhide HST
              refine ⟨m - cy, by omega, ?_⟩
              have h5 := unhide HPV
              rw [unhide HRK rfl] at h5
              rw [show (((m - cy : Nat) : Int)) = (m : Int) - (cy : Nat) by omega]
              exact h5)
            have hVs : W1.heap.size + 1 ≤ V.heap.size := by have := (unhide HFV).size; omega
            clear HR HRK HNO HST HSS HAT HYN HYO HY HOP HSG HSL HNM HALL HXC2 HA HPV HM0
            by_cases h5 : z0 = 5
            · subst h5
              go_wp2_with (first
                | (at_builtin; refine wpList_append_own _ rfl _ _ 52 rfl (W1.heap.size + 1) 9 i0 (.string ByteArray.empty) 1 16 Try.underlying52 hi hz0 hz1 hz2 rfl (by decide) _ _ _ rfl ((unhide HVO).1.alloc _) ⟨V.heap.size, 0, none⟩ 1 1 [.string z2] rfl rfl (newS _ _ _ rfl) (oneS _) (by have := unhide HCL; unfold maxLen; omega) (by have := unhide HCL; omega) (by simp; omega) ?_; intro v' w2 hown' hgrow _)
                | go_in)
              have R1 : OS (W1.heap.size + 1) w2 v' (checksOf (ps.take (j + 1))) := by
                rw [unhide HCH, if_pos trivial]; exact OS.step hown' (unhide HVO).2 (unhide HNS)
              have R2 : Below (W1.heap.size + 1) V w2 := below_grown ((Below.refl (W1.heap.size + 1) V).alloc hVs (.cells #[.string z2] 9)) hgrow (by simp; omega) (own_row (unhide HVO).1)
              obtain ⟨m', hm', hp'⟩ := unhide HM2
              have R3 : Pl W1.heap.size (.slice s0 L0 c0) 56 w2 (m' : Int) := (R2.block W1.heap.size (Nat.lt_succ_self _)).trans hp'
              have R4 : Fx W1.heap.size Z w2 := (unhide HFV).belowS (by rw [hZs]; exact R2)
              go_roundw
              case rel => exact ⟨j + 1, by omega, by go_num, R1, unhide HA2, ⟨m', hm', R3⟩, R4⟩
              case measure => simp [intOf]; omega
            · have b5 : (z0 == 5) = false := beq_eq_false_iff_ne.2 h5
              go_wp2_with fail
              go_roundw
              case rel => exact ⟨j + 1, by omega, by go_num, by rw [unhide HCH, if_neg h5]; exact unhide HVO, unhide HA2, unhide HM2, unhide HFV⟩
              case measure => simp [intOf]; omega
        · obtain rfl : L1 = j := by omega
          rw [List.take_of_length_le (by rw [unhide HL1]; exact Nat.le_refl _)] at HO HA HM0
          have hRF : (sg.all sigFB && ((ps.all (procOK sg d) && decide ((ps.map (cntP d)).sum ≤ 16384)) && (decide (sg.map (·.name)).Nodup && decide (checksOf ps).Nodup))) = (decide (sg.map (·.name)).Nodup && decide (checksOf ps).Nodup) := by
            rw [unhide HALL, unhide HA, decide_eq_true (p := (ps.map (cntP d)).sum ≤ 16384) (by have := unhide HM0; omega)]; simp
          have HRF := hide hRF
          have hfw := (Fx.of (g := W1.heap.size) (unhide HZB)).trans (unhide HFX)
          have hcl : (checksOf ps).length ≤ 256 := by
            unfold checksOf
            rw [List.length_map]
            refine Nat.le_trans (List.length_filter_le _ _) ?_
            rw [unhide HL1]; exact b1
          have HN1 := hide (iAllNew (sg.map (fun x : Signal => x.name)) _ wr (by omega) ((unhide HNM wr hfw).any (by omega)))
          have HN2 := hide (fun V (hV : Below wr.heap.size wr V) => iAllNew (checksOf ps) _ V (by omega) (((unhide HO).later hV).any (by omega)))
          have HBZ := hide ((unhide HWB).trans (Below.mono (unhide HBR) (unhide HWB).size))
          clear hRF hfw hcl HO HA HM0 HOP HSG HSL HNM HALL HXC2 HPB HFX
          obtain ⟨N1, e1⟩ : ∃ N1, decide (sg.map (fun x : Signal => x.name)).Nodup = N1 := ⟨_, rfl⟩
          obtain ⟨N2, e2⟩ : ∃ N2, decide (checksOf ps).Nodup = N2 := ⟨_, rfl⟩
          have HRR := hide ((unhide HRF).trans (show _ = (N1 && N2) from by rw [← e1, ← e2]))
          rw [e1] at HN1
          rw [e2] at HN2
          clear e1 e2 HRF
          cases N1
          · go_wp2_with fail
            refine (unhide HN1).mono ?_
            rintro e V ⟨rfl, hb⟩
            have HB3 := hide (btr (unhide HBZ) hb)
            clear hb HN1
            go_wp2_with fail
            exact bodyPost_ret (v := .bool false) (by simp [results, Try.results7, go_sem]) rfl ⟨ret_bool (unhide HRR).symm, unhide HB3⟩
          · go_wp2_with fail
            refine (unhide HN1).mono ?_
            rintro e V ⟨rfl, hb⟩
            have HB3 := hide (btr (unhide HBZ) hb)
            have HN3 := hide (unhide HN2 V hb)
            clear hb HN1 HN2
            go_wp2_with fail
            refine (unhide HN3).mono ?_
            rintro e V2 ⟨rfl, hb⟩
            have HB4 := hide (btr (unhide HB3) hb)
            clear hb HN3
            go_wp2_with fail
            exact bodyPost_ret (v := .bool N2) (by simp [results, Try.results7, go_sem]) rfl ⟨ret_bool (unhide HRR).symm, unhide HB4⟩
end Go.Proofs.Ytgkfhaahcedbpaa
