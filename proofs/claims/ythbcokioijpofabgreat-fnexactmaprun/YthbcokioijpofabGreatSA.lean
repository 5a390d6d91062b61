/- The specification's MapOK. -/
import Derived.Test.YthbcokioijpofabGreatGi
import Derived.Test.YthbcokioijpofabGreatGl
import Derived.Test.YthbcokioijpofabGreatSA0
import Derived.Test.YthbcokioijpofabGreatGh
namespace Go.Proofs.YthbcokioijpofabGreat
open Go Go.RowKit Gs
set_option linter.unusedVariables false
set_option linter.unusedSimpArgs false
set_option maxRecDepth 100000
/-- What the specification's MapOK answers. -/
def mapS (a : Mapped) : Bool := countsA a && (a.regs.all (regS (a.ins.length + a.regs.length + a.luts.length) a.clocks.length) && (lutsB (a.ins.length + a.regs.length) a.luts && (namesB (a.ins ++ a.clocks) && (namesB (a.regs.map (fun l : MapReg => l.name)) && (portsB (a.ins.length + a.regs.length + a.luts.length) a.outs && portsB (a.ins.length + a.regs.length + a.luts.length) a.checks)))))
set_option maxHeartbeats 64000000 in
theorem sMapOK (g : Mapped) (u : List Value) (w : World) (hl : szMapped g ≤ 1048576) (hr : RMapped w 0 g u) :
    Calls Tryz.prog 22 #[.agg u.toArray] w fun e w' => e = .returned (.bool (mapS g)) ∧ Below w.heap.size w w' := by
  have hz : szMapped g = szL (fun (s : ByteArray) => s.size) g.ins + szL (fun (s : ByteArray) => s.size) g.clocks + szL szMapReg g.regs + szL szLut g.luts + szL szPort g.outs + szL szPort g.checks := rfl
  have HIL := hide (lut_in hl)
  have z0 := szL_sm (fun (s : ByteArray) => s.size) g.ins
  have z1 := szL_sm (fun (s : ByteArray) => s.size) g.clocks
  have z2 := szL_sm szMapReg g.regs
  have z3 := szL_sm szLut g.luts
  have z4 := szL_sm szPort g.outs
  have z5 := szL_sm szPort g.checks
  have b0 : g.ins.length ≤ 1048576 := by omega
  have b1 : g.clocks.length ≤ 1048576 := by omega
  have b2 : g.regs.length ≤ 1048576 := by omega
  have b3 : g.luts.length ≤ 1048576 := by omega
  have b4 : g.outs.length ≤ 1048576 := by omega
  have b5 : g.checks.length ≤ 1048576 := by omega
  clear hz z0 z1 z2 z3 z4 z5 hl
  obtain ⟨v0, v1, v2, v3, v4, v5, rfl, h0, h1, h2, h3, h4, h5⟩ := hr
  obtain ⟨s0, c0, rfl⟩ := h0.slice
  obtain ⟨l0, e0⟩ : ∃ l, g.ins.length = l := ⟨_, rfl⟩
  rw [e0] at h0 b0
  obtain ⟨s1, c1, rfl⟩ := h1.slice
  obtain ⟨l1, e1⟩ : ∃ l, g.clocks.length = l := ⟨_, rfl⟩
  rw [e1] at h1 b1
  obtain ⟨s2, c2, rfl⟩ := h2.slice
  obtain ⟨l2, e2⟩ : ∃ l, g.regs.length = l := ⟨_, rfl⟩
  rw [e2] at h2 b2
  obtain ⟨s3, c3, rfl⟩ := h3.slice
  obtain ⟨l3, e3⟩ : ∃ l, g.luts.length = l := ⟨_, rfl⟩
  rw [e3] at h3 b3
  obtain ⟨s4, c4, rfl⟩ := h4.slice
  obtain ⟨l4, e4⟩ : ∃ l, g.outs.length = l := ⟨_, rfl⟩
  rw [e4] at h4 b4
  obtain ⟨s5, c5, rfl⟩ := h5.slice
  obtain ⟨l5, e5⟩ : ∃ l, g.checks.length = l := ⟨_, rfl⟩
  rw [e5] at h5 b5
  have HD : Hid (mapS g = (countsN l0 l1 l2 l3 l4 l5 && (g.regs.all (regS (l0 + l2 + l3) l1) && (lutsB (l0 + l2) g.luts && (namesB (g.ins ++ g.clocks) && (namesB (g.regs.map (fun l : MapReg => l.name)) && (portsB (l0 + l2 + l3) g.outs && portsB (l0 + l2 + l3) g.checks))))))) := hide (by
    unfold mapS countsA
    rw [e0, e1, e2, e3, e4, e5])
  have HP4 := hide (fun (V : World) (hb : Below w.heap.size w V) => sPorts (l0 + l2 + l3) g.outs _ V (by omega) (h4.later RPort.keeps hb))
  have HP5 := hide (fun (V : World) (hb : Below w.heap.size w V) => sPorts (l0 + l2 + l3) g.checks _ V (by omega) (h5.later RPort.keeps hb))
  rw [e0, e1, e2, e3, e4, e5]
  generalize mapS g = RR at *
  have HC1 : Hid (∀ V, Below (w.alloc (.cells #[.slice s0 l0 c0, .slice s1 l1 c1, .slice s2 l2 c2, .slice s3 l3 c3, .slice s4 l4 c4, .slice s5 l5 c5] 38)).heap.size (w.alloc (.cells #[.slice s0 l0 c0, .slice s1 l1 c1, .slice s2 l2 c2, .slice s3 l3 c3, .slice s4 l4 c4, .slice s5 l5 c5] 38)) V → V.cell? ⟨w.heap.size, 0, none⟩ = some (.slice s0 l0 c0) ∧ V.cell? ⟨w.heap.size, 1, none⟩ = some (.slice s1 l1 c1) ∧ V.cell? ⟨w.heap.size, 2, none⟩ = some (.slice s2 l2 c2) ∧ V.cell? ⟨w.heap.size, 3, none⟩ = some (.slice s3 l3 c3) ∧ V.cell? ⟨w.heap.size, 4, none⟩ = some (.slice s4 l4 c4) ∧ V.cell? ⟨w.heap.size, 5, none⟩ = some (.slice s5 l5 c5)) := hide (fun V hb => ⟨cell_later hb (by rw [World.cell?_alloc_new]; rfl), cell_later hb (by rw [World.cell?_alloc_new]; rfl), cell_later hb (by rw [World.cell?_alloc_new]; rfl), cell_later hb (by rw [World.cell?_alloc_new]; rfl), cell_later hb (by rw [World.cell?_alloc_new]; rfl), cell_later hb (by rw [World.cell?_alloc_new]; rfl)⟩)
  obtain ⟨W, hW⟩ : ∃ W, W = w.alloc (.cells #[.slice s0 l0 c0, .slice s1 l1 c1, .slice s2 l2 c2, .slice s3 l3 c3, .slice s4 l4 c4, .slice s5 l5 c5] 38) := ⟨_, rfl⟩
  have HW : Hid (Below w.heap.size w W) := hide (by rw [hW]; exact bal (brf w) _)
  rw [← hW] at HC1
  have HW' := hide hW
  have HWS : Hid (W.heap.size = w.heap.size + 1) := hide (by rw [hW]; simp)
  clear hW
  by_cases k3 : (1024 : Int) < (l3 : Int)
  · have HF : Hid (RR = false) := hide (by
      rw [unhide HD]
      unfold countsN
      rw [decide_eq_false (p := l3 ≤ 1024) (by omega)]
      simp)
    clear HC1 HD HP4 HP5 h0 h1 h2 h3 h4 h5
    go_enter Tryz.func22, Tryz.ntmps22
    go_wp2
    exact bodyPost_ret (v := .bool false) (by simp [results, Tryz.results22, go_sem]) rfl ⟨by rw [unhide HF], bal (brf w) _⟩
  by_cases k02 : (2048 : Int) < (l0 : Int) + (l2 : Int)
  · have HF : Hid (RR = false) := hide (by
      rw [unhide HD]
      unfold countsN
      rw [decide_eq_false (p := l0 + l2 ≤ 2048) (by omega)]
      simp)
    clear HC1 HD HP4 HP5 h0 h1 h2 h3 h4 h5
    have f0 : decide ((1024 : Int) < (l3 : Int)) = false := decide_eq_false k3
    go_enter Tryz.func22, Tryz.ntmps22
    go_wp2
    exact bodyPost_ret (v := .bool false) (by simp [results, Tryz.results22, go_sem]) rfl ⟨by rw [unhide HF], bal (brf w) _⟩
  by_cases k4 : (2048 : Int) < (l4 : Int)
  · have HF : Hid (RR = false) := hide (by
      rw [unhide HD]
      unfold countsN
      rw [decide_eq_false (p := l4 ≤ 2048) (by omega)]
      simp)
    clear HC1 HD HP4 HP5 h0 h1 h2 h3 h4 h5
    have f0 : decide ((1024 : Int) < (l3 : Int)) = false := decide_eq_false k3
    have f1 : decide ((2048 : Int) < (l0 : Int) + (l2 : Int)) = false := decide_eq_false k02
    go_enter Tryz.func22, Tryz.ntmps22
    go_wp2
    exact bodyPost_ret (v := .bool false) (by simp [results, Tryz.results22, go_sem]) rfl ⟨by rw [unhide HF], bal (brf w) _⟩
  by_cases k5 : (2048 : Int) < (l5 : Int)
  · have HF : Hid (RR = false) := hide (by
      rw [unhide HD]
      unfold countsN
      rw [decide_eq_false (p := l5 ≤ 2048) (by omega)]
      simp)
    clear HC1 HD HP4 HP5 h0 h1 h2 h3 h4 h5
    have f0 : decide ((1024 : Int) < (l3 : Int)) = false := decide_eq_false k3
    have f1 : decide ((2048 : Int) < (l0 : Int) + (l2 : Int)) = false := decide_eq_false k02
    have f2 : decide ((2048 : Int) < (l4 : Int)) = false := decide_eq_false k4
    go_enter Tryz.func22, Tryz.ntmps22
    go_wp2
    exact bodyPost_ret (v := .bool false) (by simp [results, Tryz.results22, go_sem]) rfl ⟨by rw [unhide HF], bal (brf w) _⟩
  by_cases k1 : (8 : Int) < (l1 : Int)
  · have HF : Hid (RR = false) := hide (by
      rw [unhide HD]
      unfold countsN
      rw [decide_eq_false (p := l1 ≤ 8) (by omega)]
      simp)
    clear HC1 HD HP4 HP5 h0 h1 h2 h3 h4 h5
    have f0 : decide ((1024 : Int) < (l3 : Int)) = false := decide_eq_false k3
    have f1 : decide ((2048 : Int) < (l0 : Int) + (l2 : Int)) = false := decide_eq_false k02
    have f2 : decide ((2048 : Int) < (l4 : Int)) = false := decide_eq_false k4
    have f3 : decide ((2048 : Int) < (l5 : Int)) = false := decide_eq_false k5
    go_enter Tryz.func22, Tryz.ntmps22
    go_wp2
    exact bodyPost_ret (v := .bool false) (by simp [results, Tryz.results22, go_sem]) rfl ⟨by rw [unhide HF], bal (brf w) _⟩
  have HD2 : Hid (RR = (g.regs.all (regS (l0 + l2 + l3) l1) && (lutsB (l0 + l2) g.luts && (namesB (g.ins ++ g.clocks) && (namesB (g.regs.map (fun l : MapReg => l.name)) && (portsB (l0 + l2 + l3) g.outs && portsB (l0 + l2 + l3) g.checks)))))) := hide (by
    rw [unhide HD]
    rw [show countsN l0 l1 l2 l3 l4 l5 = true by unfold countsN; rw [decide_eq_true (p := l3 ≤ 1024) (by omega), decide_eq_true (p := l0 + l2 ≤ 2048) (by omega), decide_eq_true (p := l4 ≤ 2048) (by omega), decide_eq_true (p := l5 ≤ 2048) (by omega), decide_eq_true (p := l1 ≤ 8) (by omega)]; rfl]
    rfl)
  have f0 : decide ((1024 : Int) < (l3 : Int)) = false := decide_eq_false k3
  have f1 : decide ((2048 : Int) < (l0 : Int) + (l2 : Int)) = false := decide_eq_false k02
  have f2 : decide ((2048 : Int) < (l4 : Int)) = false := decide_eq_false k4
  have f3 : decide ((2048 : Int) < (l5 : Int)) = false := decide_eq_false k5
  have f4 : decide ((8 : Int) < (l1 : Int)) = false := decide_eq_false k1
  have d3 : l3 ≤ 1024 := by omega
  have d02 : l0 + l2 ≤ 2048 := by omega
  obtain ⟨FA, hFA⟩ : ∃ FA, l0 + l2 = FA := ⟨_, rfl⟩
  obtain ⟨VV, hVV⟩ : ∃ VV, FA + l3 = VV := ⟨_, rfl⟩
  rw [hFA, hVV] at HD2 HP4 HP5
  have qFA : (l0 : Int) + (l2 : Int) = (FA : Int) := by omega
  have qVV : (FA : Int) + (l3 : Int) = (VV : Int) := by omega
  have d5 : FA ≤ 2048 := by omega
  have H0 := hide (fun (V : World) (hb : Below w.heap.size w V) => h0.later RStr.keeps hb)
  have H1 := hide (fun (V : World) (hb : Below w.heap.size w V) => h1.later RStr.keeps hb)
  have H2 := hide (fun (V : World) (hb : Below w.heap.size w V) => h2.later RMapReg.keeps hb)
  have H3 := hide (fun (V : World) (hb : Below w.heap.size w V) => h3.later RLut.keeps hb)
  have HE := hide (And.intro e0 (And.intro e1 (And.intro e2 e3)))
  have HBD := hide (And.intro b0 (And.intro b1 (And.intro b2 b3)))
  have HLEN3 := hide (show ([] : List ByteArray).length + g.ins.length ≤ 4194304 by have := unhide HE; simp; omega)
  have HLEN6 := hide (show g.ins.length + g.clocks.length ≤ 4194304 by have := unhide HE; omega)
  have HDD := hide (And.intro d3 d5)
  clear HD h0 h1 h2 h3 h4 h5 e0 e1 e2 e3 e4 e5 b0 b1 b2 b3 b4 b5 hFA hVV d3 d02
  rw [qFA] at f1 k02
  go_enter Tryz.func22, Tryz.ntmps22
  go_wp2
  rw [← unhide HW', ← unhide HWS]
  clear f0 f1 f2 f3 f4 k3 k02 k4 k5 k1 qFA qVV d5
  refine sRegs (W0 := W) (ls := g.regs) (VV := VV) (l1 := l1) (pb := w.heap.size) (unhide HE).2.2.1.symm (by have := unhide HE; have := unhide HBD; omega) (hide (fun V hV => ⟨(unhide HC1 V hV).2.1, (unhide HC1 V hV).2.2.1⟩)) (hide ?_) (hide (OS_start rfl (Nat.le_refl _))) (hide (bal (brf W) _)) ?_ ?_
  · intro i x hx
    rcases (unhide H2 W (unhide HW)).open with ⟨hn, _⟩ | ⟨b, o, c', hv, _, _, _, he⟩
    · rw [hn] at hx; simp at hx
    · injection hv with g1 g2 g3
      obtain ⟨u, hu, hat, hux, hs⟩ := he i x hx
      subst hux
      exact ⟨b, o, g1, by simpa using hat.get (j := 0) rfl, by simpa using hat.get (j := 1) rfl, by simpa using hat.get (j := 2) rfl, by simpa using hat.get (j := 3) rfl, hs⟩
  · intro hall y2 y6 y7 y52 y53 y54 y55 y56 y57 y58 y59 y60 y61 y62 y63 y64 y65 y66 y67 y68 y69 y70 y71 y72 y73 y74 y75 y76 y77 y78 y79 y80 y81 y82 y83 y84 y85 y86 y87 y88 y89 y90 y91 y92 y93 y94 y95 y96 y97 y98 y99 y100 vr V1 hor hb1
    have HD3 : Hid (RR = (lutsB FA g.luts && (namesB (g.ins ++ g.clocks) && (namesB (g.regs.map (fun l : MapReg => l.name)) && (portsB VV g.outs && portsB VV g.checks))))) := hide (by rw [unhide HD2, hall]; rfl)
    have HOR := hide hor
    have HB1 := hide hb1
    clear hall hor hb1 HD2 H2
    go_wp2_with fail
    refine sLuts (W := V1) (xs := g.luts) (FA := FA) (pb := w.heap.size) (unhide HE).2.2.2.symm (by have := unhide HE; have := unhide HDD; omega) (by have := unhide HDD; omega) HIL (hide (fun V hV => (unhide HC1 V (btr (unhide HB1) hV)).2.2.2.1)) (hide ?_) ?_ ?_
    · intro i x hx
      rcases (unhide H3 V1 (btr (unhide HW) (unhide HB1))).open with ⟨hn, _⟩ | ⟨b, o, c', hv, _, _, _, he⟩
      · rw [hn] at hx; simp at hx
      · injection hv with g1 g2 g3
        obtain ⟨u, hu, hat, v0, hux, hs⟩ := he i x hx
        subst hux
        exact ⟨b, o, v0, g1, by simpa using hat.get (j := 0) rfl, by simpa using hat.get (j := 1) rfl, hs⟩
    · intro hall x2 x8 x9 x10 x11 x101 x102 x103 x104 x105 x106 x107 x108 x109 x110 x111 x112 x113 x114 x115 x116 x117 x118 x119 x120 x121 x122 x123 x124 x125 x126 x127 x128 x129 x130 x131 x132 x133 x134 x135 x136 x137 x138 x139 x140 x141 x142 x143 x144 x145 x146 x147 x148 x149 x150 x151 x152 x153 x154 x155 x156 x157 x158 x159 x160 x161 x162 x163 x164 x165 x166 x167 x168 x169 x170 V2 hb2
      have HD4 : Hid (RR = (namesB (g.ins ++ g.clocks) && (namesB (g.regs.map (fun l : MapReg => l.name)) && (portsB VV g.outs && portsB VV g.checks)))) := hide (by rw [unhide HD3, hall]; rfl)
      have HB2 := hide (btr (unhide HB1) hb2)
      have HNL0 := hide (fun (U : World) (hU : Below V2.heap.size V2 U) => sNames (g.regs.map (fun l : MapReg => l.name)) vr U (by have := unhide HE; have := unhide HBD; rw [List.length_map]; omega) (((unhide HOR).later (btr hb2 hU)).any (by have := unhide HE; have := unhide HBD; rw [List.length_map]; omega)))
      clear hall hb2 HD3 H3 HIL HOR HB1
      go_wp2_with fail
      refine wp_plan (GAs w.heap.size V2.heap.size (.slice s0 l0 c0) (.slice s1 l1 c1) g.ins g.clocks) (JAs V2) (by kernel_rfl) 196 (by kernel_rfl) (by kernel_rfl) ?hj ?hs ?hf
      case hj => exact ⟨bdr (brf V2), fun h => (by simp [Array.getD] at h), fun h => (by simp [Array.getD] at h)⟩
      case hs =>
        refine ⟨?_, ?_, ?_, ?_, ?_, ?_, ?_, ?_, trivial⟩
        · intro l a V hp hu ha
          unfold opW
          rw [if_pos (wanted_none rfl)]
          refine .inl ⟨.slice (some ⟨V.heap.size, 0, none⟩) 0 0, V.alloc (.cells #[] 9), by go_simp, _, rfl, hp.j.keep (by decide) (bal (brf V) _), fun _ => OS_start rfl hp.j.1.size, fun _ _ _ _ h => h.keep (bal (brf V) _)⟩
        · exact sas_val (by decide) rfl (fun l a V hp ha => ⟨.pointer (some ⟨w.heap.size, 0, none⟩), by
            have x1 := (ev_form a 1).trans (old hp 1 (v := .pointer (some ⟨w.heap.size, 0, none⟩)) (by kernel_rfl) (by kernel_rfl))
            go_simp, fun _ => rfl⟩)
        · exact sas_val (by decide) rfl (fun l a V hp ha => ⟨(.slice s0 l0 c0), by
            have x172 := (ev_form a 172).trans (show a.eval (.tmp 172) = .pointer (some ⟨w.heap.size, 0, none⟩) from kn hp ha 172 1 (by kernel_rfl) (by kernel_rfl))
            obtain ⟨q0, q1, q2, q3, q4, q5⟩ := unhide HC1 V (btr (unhide HB2) hp.j.1)
            go_simp, fun _ => rfl⟩)
        · intro l a V hp hu ha
          have hA : OS V2.heap.size V (a.eval (.tmp 171)) [] := (show GAs w.heap.size V2.heap.size (.slice s0 l0 c0) (.slice s1 l1 c1) g.ins g.clocks l 0 V (a.eval (.tmp 171)) from kn hp ha 171 0 (by kernel_rfl) (by kernel_rfl)) (not_done hu)
          have hX : a.eval (.tmp 173) = (.slice s0 l0 c0) := kn hp ha 173 2 (by kernel_rfl) (by kernel_rfl)
          refine opApp rfl (.tmp 171) (.tmp 173) rfl V2.heap.size _ [] rfl hA _ g.ins hX (unhide H0 V (btr (unhide HW) (btr (unhide HB2) hp.j.1))) (unhide HLEN3) hp.j.1.size ?_
          intro v' w' ho hgr
          have hB' : Below V2.heap.size V2 w' := below_grown hp.j.1 hgr hp.j.1.size (own_row hA.1)
          have D0 := onB_spec (by kernel_rfl : onB _ 0 = true) ha
          have n6 : l.getD 6 false = false := by
            cases e : l.getD 6 false with
            | false => rfl
            | true => have := not_done hu; rw [hp.j.2.1 e] at this; cases this
          have n7 : l.getD 7 false = false := by
            cases e : l.getD 7 false with
            | false => rfl
            | true => rw [hp.j.2.2 e] at n6; cases n6
          refine ⟨v', rfl, ⟨hB', fun e => now_done hu, fun e => by rw [get_ne (by decide), n7] at e; cases e⟩, fun _ => ho, fun j d hd hj h => ?_⟩
          match j, hj, h with
          | 0, hj, h => exact fun e => by rw [now_done hu] at e; cases e
          | 1, hj, h => exact h
          | 2, hj, h => exact h
          | 3, hj, h => rw [not_done hu] at hj; cases hj
          | 4, hj, h => exact h
          | 5, hj, h => exact h
          | 6, hj, h => rw [n6] at hj; cases hj
          | 7, hj, h => rw [n7] at hj; cases hj
          | _ + 8, hj, h => trivial
        · exact sas_val (by decide) rfl (fun l a V hp ha => ⟨.pointer (some ⟨w.heap.size, 1, none⟩), by
            have x1 := (ev_form a 1).trans (old hp 1 (v := .pointer (some ⟨w.heap.size, 0, none⟩)) (by kernel_rfl) (by kernel_rfl))
            go_simp, fun _ => rfl⟩)
        · exact sas_val (by decide) rfl (fun l a V hp ha => ⟨(.slice s1 l1 c1), by
            have x175 := (ev_form a 175).trans (show a.eval (.tmp 175) = .pointer (some ⟨w.heap.size, 1, none⟩) from kn hp ha 175 4 (by kernel_rfl) (by kernel_rfl))
            obtain ⟨q0, q1, q2, q3, q4, q5⟩ := unhide HC1 V (btr (unhide HB2) hp.j.1)
            go_simp, fun _ => rfl⟩)
        · intro l a V hp hu ha
          have hA : OS V2.heap.size V (a.eval (.tmp 174)) g.ins := (show GAs w.heap.size V2.heap.size (.slice s0 l0 c0) (.slice s1 l1 c1) g.ins g.clocks l 3 V (a.eval (.tmp 174)) from kn hp ha 174 3 (by kernel_rfl) (by kernel_rfl)) (not_done hu)
          have hX : a.eval (.tmp 176) = (.slice s1 l1 c1) := kn hp ha 176 5 (by kernel_rfl) (by kernel_rfl)
          refine opApp rfl (.tmp 174) (.tmp 176) rfl V2.heap.size _ g.ins rfl hA _ g.clocks hX (unhide H1 V (btr (unhide HW) (btr (unhide HB2) hp.j.1))) (unhide HLEN6) hp.j.1.size ?_
          intro v' w' ho hgr
          have hB' : Below V2.heap.size V2 w' := below_grown hp.j.1 hgr hp.j.1.size (own_row hA.1)
          have D3 := onB_spec (by kernel_rfl : onB _ 3 = true) ha
          have n7 : l.getD 7 false = false := by
            cases e : l.getD 7 false with
            | false => rfl
            | true => have := not_done hu; rw [hp.j.2.2 e] at this; cases this
          refine ⟨v', rfl, ⟨hB', fun e => get_mono D3, fun e => now_done hu⟩, ho, fun j d hd hj h => ?_⟩
          match j, hj, h with
          | 0, hj, h => exact fun e => by rw [get_mono D3] at e; cases e
          | 1, hj, h => exact h
          | 2, hj, h => exact h
          | 3, hj, h => exact fun e => by rw [now_done hu] at e; cases e
          | 4, hj, h => exact h
          | 5, hj, h => exact h
          | 6, hj, h => rw [not_done hu] at hj; cases hj
          | 7, hj, h => rw [n7] at hj; cases hj
          | _ + 8, hj, h => trivial
        · intro l a V hp hu ha
          have f48 : OS V2.heap.size V (a.eval (.tmp 177)) (g.ins ++ g.clocks) := kn hp ha 177 6 (by kernel_rfl) (by kernel_rfl)
          have D6 := onB_spec (by kernel_rfl : onB _ 6 = true) ha
          have x48 := ev_form a 177
          unfold opW
          rw [if_pos (wanted_none rfl)]
          refine .inl ⟨a.eval (.tmp 177), V, by obtain ⟨t1, t2, t3, ht⟩ := f48.shape; rw [ht] at x48 ⊢; go_simp, _, rfl, ⟨hp.j.1, fun e => get_mono (hp.j.2.1 D6), fun e => get_mono D6⟩, f48, fun _ _ _ _ h => h.keep (brf V)⟩
      case hf =>
        intro l a V3 hp hall
        have hv : OS V2.heap.size V3 (a.eval (.tmp 12)) (g.ins ++ g.clocks) := hp.good 7 _ 12 rfl rfl (hall 7 (by decide))
        have HBV := hide hp.j.1
        obtain ⟨us, rfl, hus⟩ := putAll_of [171, 172, 173, 174, 175, 176, 177, 12] hp.nt hp.df (fun t ht => hp.keep t (dstIn (by kernel_rfl) ht))
        rw [← hus 12] at hv
        have HNV := hide hv
        clear hp hall hus hv
        simp only [putAll, List.foldl, Act.put, List.setIfInBounds_toArray, List.set_cons_zero, List.set_cons_succ]
        generalize us 171 = y171 at *
        generalize us 172 = y172 at *
        generalize us 173 = y173 at *
        generalize us 174 = y174 at *
        generalize us 175 = y175 at *
        generalize us 176 = y176 at *
        generalize us 177 = y177 at *
        generalize us 12 = y12 at *
        have HNR := hide (fun (U : World) (hU : Below V3.heap.size V3 U) => sNames (g.ins ++ g.clocks) y12 U (by have := unhide HE; have := unhide HBD; rw [List.length_append]; omega) (((unhide HNV).later hU).any (by have := unhide HE; have := unhide HBD; rw [List.length_append]; omega)))
        have HNL := hide (fun (U : World) (hU : Below V3.heap.size V3 U) => unhide HNL0 U (btr (unhide HBV) hU))
        have HW3 := hide (btr (unhide HB2) (unhide HBV))
        have HXX := hide (btr (unhide HW) (unhide HW3))
        clear HNV H0 H1 HLEN3 HLEN6 HNL0
        generalize namesB (g.ins ++ g.clocks) = p1 at *
        generalize namesB (g.regs.map (fun l : MapReg => l.name)) = p2 at *
        generalize portsB VV g.outs = p3 at *
        generalize portsB VV g.checks = p4 at *
        obtain ⟨t0, t1, t2, t3, t4, t5⟩ := unhide HC1 V3 (unhide HW3)
        cases p1
        · go_wp2_with fail
          refine (unhide HNR _ (brf _)).mono ?_
          rintro e Y1 ⟨rfl, hy1⟩
          have HC_1 : Hid (Below V3.heap.size V3 Y1) := hide hy1
          obtain ⟨q10, q11, q12, q13, q14, q15⟩ := unhide HC1 Y1 (btr (unhide HW3) (unhide HC_1))
          clear hy1
          go_wp2_with fail
          exact bodyPost_ret (v := .bool false) (by simp [results, Tryz.results22, go_sem]) rfl ⟨by rw [unhide HD4]; rfl, btr (unhide HXX) (unhide HC_1)⟩
        · cases p2
          · go_wp2_with fail
            refine (unhide HNR _ (brf _)).mono ?_
            rintro e Y1 ⟨rfl, hy1⟩
            have HC_1 : Hid (Below V3.heap.size V3 Y1) := hide hy1
            obtain ⟨q10, q11, q12, q13, q14, q15⟩ := unhide HC1 Y1 (btr (unhide HW3) (unhide HC_1))
            clear hy1
            go_wp2_with fail
            refine (unhide HNL _ (unhide HC_1)).mono ?_
            rintro e Y2 ⟨rfl, hy2⟩
            have HC_2 : Hid (Below V3.heap.size V3 Y2) := hide (btr (unhide HC_1) hy2)
            obtain ⟨q20, q21, q22, q23, q24, q25⟩ := unhide HC1 Y2 (btr (unhide HW3) (unhide HC_2))
            clear hy2 q10 q11 q12 q13 q14 q15
            go_wp2_with fail
            exact bodyPost_ret (v := .bool false) (by simp [results, Tryz.results22, go_sem]) rfl ⟨by rw [unhide HD4]; rfl, btr (unhide HXX) (unhide HC_2)⟩
          · cases p3
            · go_wp2_with fail
              refine (unhide HNR _ (brf _)).mono ?_
              rintro e Y1 ⟨rfl, hy1⟩
              have HC_1 : Hid (Below V3.heap.size V3 Y1) := hide hy1
              obtain ⟨q10, q11, q12, q13, q14, q15⟩ := unhide HC1 Y1 (btr (unhide HW3) (unhide HC_1))
              clear hy1
              go_wp2_with fail
              refine (unhide HNL _ (unhide HC_1)).mono ?_
              rintro e Y2 ⟨rfl, hy2⟩
              have HC_2 : Hid (Below V3.heap.size V3 Y2) := hide (btr (unhide HC_1) hy2)
              obtain ⟨q20, q21, q22, q23, q24, q25⟩ := unhide HC1 Y2 (btr (unhide HW3) (unhide HC_2))
              clear hy2 q10 q11 q12 q13 q14 q15
              go_wp2_with fail
              refine (unhide HP4 _ (btr (unhide HXX) (unhide HC_2))).mono ?_
              rintro e Y3 ⟨rfl, hy3⟩
              have HC_3 : Hid (Below V3.heap.size V3 Y3) := hide (btr (unhide HC_2) hy3)
              obtain ⟨q30, q31, q32, q33, q34, q35⟩ := unhide HC1 Y3 (btr (unhide HW3) (unhide HC_3))
              clear hy3 q20 q21 q22 q23 q24 q25
              go_wp2_with fail
              exact bodyPost_ret (v := .bool false) (by simp [results, Tryz.results22, go_sem]) rfl ⟨by rw [unhide HD4]; rfl, btr (unhide HXX) (unhide HC_3)⟩
            · cases p4
              · go_wp2_with fail
                refine (unhide HNR _ (brf _)).mono ?_
                rintro e Y1 ⟨rfl, hy1⟩
                have HC_1 : Hid (Below V3.heap.size V3 Y1) := hide hy1
                obtain ⟨q10, q11, q12, q13, q14, q15⟩ := unhide HC1 Y1 (btr (unhide HW3) (unhide HC_1))
                clear hy1
                go_wp2_with fail
                refine (unhide HNL _ (unhide HC_1)).mono ?_
                rintro e Y2 ⟨rfl, hy2⟩
                have HC_2 : Hid (Below V3.heap.size V3 Y2) := hide (btr (unhide HC_1) hy2)
                obtain ⟨q20, q21, q22, q23, q24, q25⟩ := unhide HC1 Y2 (btr (unhide HW3) (unhide HC_2))
                clear hy2 q10 q11 q12 q13 q14 q15
                go_wp2_with fail
                refine (unhide HP4 _ (btr (unhide HXX) (unhide HC_2))).mono ?_
                rintro e Y3 ⟨rfl, hy3⟩
                have HC_3 : Hid (Below V3.heap.size V3 Y3) := hide (btr (unhide HC_2) hy3)
                obtain ⟨q30, q31, q32, q33, q34, q35⟩ := unhide HC1 Y3 (btr (unhide HW3) (unhide HC_3))
                clear hy3 q20 q21 q22 q23 q24 q25
                go_wp2_with fail
                refine (unhide HP5 _ (btr (unhide HXX) (unhide HC_3))).mono ?_
                rintro e Y4 ⟨rfl, hy4⟩
                have HC_4 : Hid (Below V3.heap.size V3 Y4) := hide (btr (unhide HC_3) hy4)
                obtain ⟨q40, q41, q42, q43, q44, q45⟩ := unhide HC1 Y4 (btr (unhide HW3) (unhide HC_4))
                clear hy4 q30 q31 q32 q33 q34 q35
                go_wp2_with fail
                exact bodyPost_ret (v := .bool false) (by simp [results, Tryz.results22, go_sem]) rfl ⟨by rw [unhide HD4]; rfl, btr (unhide HXX) (unhide HC_4)⟩
              · go_wp2_with fail
                refine (unhide HNR _ (brf _)).mono ?_
                rintro e Y1 ⟨rfl, hy1⟩
                have HC_1 : Hid (Below V3.heap.size V3 Y1) := hide hy1
                obtain ⟨q10, q11, q12, q13, q14, q15⟩ := unhide HC1 Y1 (btr (unhide HW3) (unhide HC_1))
                clear hy1
                go_wp2_with fail
                refine (unhide HNL _ (unhide HC_1)).mono ?_
                rintro e Y2 ⟨rfl, hy2⟩
                have HC_2 : Hid (Below V3.heap.size V3 Y2) := hide (btr (unhide HC_1) hy2)
                obtain ⟨q20, q21, q22, q23, q24, q25⟩ := unhide HC1 Y2 (btr (unhide HW3) (unhide HC_2))
                clear hy2 q10 q11 q12 q13 q14 q15
                go_wp2_with fail
                refine (unhide HP4 _ (btr (unhide HXX) (unhide HC_2))).mono ?_
                rintro e Y3 ⟨rfl, hy3⟩
                have HC_3 : Hid (Below V3.heap.size V3 Y3) := hide (btr (unhide HC_2) hy3)
                obtain ⟨q30, q31, q32, q33, q34, q35⟩ := unhide HC1 Y3 (btr (unhide HW3) (unhide HC_3))
                clear hy3 q20 q21 q22 q23 q24 q25
                go_wp2_with fail
                refine (unhide HP5 _ (btr (unhide HXX) (unhide HC_3))).mono ?_
                rintro e Y4 ⟨rfl, hy4⟩
                have HC_4 : Hid (Below V3.heap.size V3 Y4) := hide (btr (unhide HC_3) hy4)
                obtain ⟨q40, q41, q42, q43, q44, q45⟩ := unhide HC1 Y4 (btr (unhide HW3) (unhide HC_4))
                clear hy4 q30 q31 q32 q33 q34 q35
                go_wp2_with fail
                exact bodyPost_ret (v := .bool true) (by simp [results, Tryz.results22, go_sem]) rfl ⟨by rw [unhide HD4]; rfl, btr (unhide HXX) (unhide HC_4)⟩
    · intro hall x8 x9 x10 x11 x101 x102 x103 x104 x105 x106 x107 x108 x109 x110 x111 x112 x113 x114 x115 x116 x117 x118 x119 x120 x121 x122 x123 x124 x125 x126 x127 x128 x129 x130 x131 x132 x133 x134 x135 x136 x137 x138 x139 x140 x141 x142 x143 x144 x145 x146 x147 x148 x149 x150 x151 x152 x153 x154 x155 x156 x157 x158 x159 x160 x161 x162 x163 x164 x165 x166 x167 x168 x169 x170 V2 hb2
      have HF : Hid (RR = false) := hide (by rw [unhide HD3, hall]; rfl)
      have HB2 := hide (btr (unhide HW) (btr (unhide HB1) hb2))
      clear hall hb2 HD3 H3 HIL HOR HB1
      go_wp2_with fail
      exact bodyPost_ret (v := .bool false) (by simp [results, Tryz.results22, go_sem]) rfl ⟨by rw [unhide HF], unhide HB2⟩
  · intro hall y6 y7 y52 y53 y54 y55 y56 y57 y58 y59 y60 y61 y62 y63 y64 y65 y66 y67 y68 y69 y70 y71 y72 y73 y74 y75 y76 y77 y78 y79 y80 y81 y82 y83 y84 y85 y86 y87 y88 y89 y90 y91 y92 y93 y94 y95 y96 y97 y98 y99 y100 vr V1 hb1
    have HF : Hid (RR = false) := hide (by rw [unhide HD2, hall]; rfl)
    have HB1 := hide (btr (unhide HW) hb1)
    clear hall hb1 HD2
    go_wp2_with fail
    exact bodyPost_ret (v := .bool false) (by simp [results, Tryz.results22, go_sem]) rfl ⟨by rw [unhide HF], unhide HB1⟩
end Go.Proofs.YthbcokioijpofabGreat
