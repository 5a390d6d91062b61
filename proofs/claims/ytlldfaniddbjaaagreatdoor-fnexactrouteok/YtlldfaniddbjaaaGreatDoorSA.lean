/- The specification's PackOK. -/
import Derived.Test.YtlldfaniddbjaaaGreatDoorSN2
import Derived.Test.YtlldfaniddbjaaaGreatDoorSA0
import Derived.Test.YtlldfaniddbjaaaGreatDoorGC
namespace Go.Proofs.YtlldfaniddbjaaaGreatDoor
open Go Go.RowKit Gs
set_option linter.unusedVariables false
set_option linter.unusedSimpArgs false
set_option maxRecDepth 100000
/-- What the specification's PackOK answers. -/
def packS (a : Packed) : Bool := countsA a && (upB (blkSAt a.ins.length a.blocks a.clocks.length (a.ins.length + a.blocks.length)) a.blocks.length && (namesB (a.ins ++ a.clocks) && (namesB ((a.blocks.filter (·.reg)).map (·.name)) && (portsB (a.ins.length + a.blocks.length) a.outs && portsB (a.ins.length + a.blocks.length) a.checks))))
set_option maxHeartbeats 64000000 in
theorem sPackOK (g : Packed) (u : List Value) (w : World) (hl : szPacked g ≤ 1048576) (hr : RPacked w 0 g u) :
    Calls Tryz.prog 44 #[.agg u.toArray] w fun e w' => e = .returned (.bool (packS g)) ∧ Below w.heap.size w w' := by
  have hz : szPacked g = szL (fun (s : ByteArray) => s.size) g.ins + szL (fun (s : ByteArray) => s.size) g.clocks + szL szBlock g.blocks + szL szPort g.outs + szL szPort g.checks := rfl
  have HIL := hide (blk_in hl)
  have z0 := szL_sm (fun (s : ByteArray) => s.size) g.ins
  have z1 := szL_sm (fun (s : ByteArray) => s.size) g.clocks
  have z2 := szL_sm szBlock g.blocks
  have z3 := szL_sm szPort g.outs
  have z4 := szL_sm szPort g.checks
  have b0 : g.ins.length ≤ 1048576 := by omega
  have b1 : g.clocks.length ≤ 1048576 := by omega
  have b2 : g.blocks.length ≤ 1048576 := by omega
  have b3 : g.outs.length ≤ 1048576 := by omega
  have b4 : g.checks.length ≤ 1048576 := by omega
  clear hz z0 z1 z2 z3 z4 hl
  obtain ⟨v0, v1, v2, v3, v4, rfl, h0, h1, h2, h3, h4⟩ := hr
  obtain ⟨s0, c0, rfl⟩ := h0.slice
  obtain ⟨l0, e0⟩ : ∃ l, g.ins.length = l := ⟨_, rfl⟩
  rw [e0] at h0 b0
  obtain ⟨s1, c1, rfl⟩ := h1.slice
  obtain ⟨l1, e1⟩ : ∃ l, g.clocks.length = l := ⟨_, rfl⟩
  rw [e1] at h1 b1
  obtain ⟨s2, c2, rfl⟩ := h2.slice
  obtain ⟨l2, e2⟩ : ∃ l, g.blocks.length = l := ⟨_, rfl⟩
  rw [e2] at h2 b2
  obtain ⟨s3, c3, rfl⟩ := h3.slice
  obtain ⟨l3, e3⟩ : ∃ l, g.outs.length = l := ⟨_, rfl⟩
  rw [e3] at h3 b3
  obtain ⟨s4, c4, rfl⟩ := h4.slice
  obtain ⟨l4, e4⟩ : ∃ l, g.checks.length = l := ⟨_, rfl⟩
  rw [e4] at h4 b4
  have HD : Hid (packS g = (countsN l0 l1 l2 l3 l4 && (upB (blkSAt l0 g.blocks l1 (l0 + l2)) l2 && (namesB (g.ins ++ g.clocks) && (namesB ((g.blocks.filter (·.reg)).map (·.name)) && (portsB (l0 + l2) g.outs && portsB (l0 + l2) g.checks)))))) := hide (by
    unfold packS countsA
    rw [e0, e1, e2, e3, e4])
  have HP4 := hide (fun (V : World) (hb : Below w.heap.size w V) => sPorts (l0 + l2) g.outs _ V (by omega) (h3.later RPort.keeps hb))
  have HP5 := hide (fun (V : World) (hb : Below w.heap.size w V) => sPorts (l0 + l2) g.checks _ V (by omega) (h4.later RPort.keeps hb))
  rw [e0, e1, e2, e3, e4]
  generalize packS g = RR at *
  have HC1 : Hid (∀ V, Below (w.alloc (.cells #[.slice s0 l0 c0, .slice s1 l1 c1, .slice s2 l2 c2, .slice s3 l3 c3, .slice s4 l4 c4] 37)).heap.size (w.alloc (.cells #[.slice s0 l0 c0, .slice s1 l1 c1, .slice s2 l2 c2, .slice s3 l3 c3, .slice s4 l4 c4] 37)) V → V.cell? ⟨w.heap.size, 0, none⟩ = some (.slice s0 l0 c0) ∧ V.cell? ⟨w.heap.size, 1, none⟩ = some (.slice s1 l1 c1) ∧ V.cell? ⟨w.heap.size, 2, none⟩ = some (.slice s2 l2 c2) ∧ V.cell? ⟨w.heap.size, 3, none⟩ = some (.slice s3 l3 c3) ∧ V.cell? ⟨w.heap.size, 4, none⟩ = some (.slice s4 l4 c4)) := hide (fun V hb => ⟨cell_later hb (by rw [World.cell?_alloc_new]; rfl), cell_later hb (by rw [World.cell?_alloc_new]; rfl), cell_later hb (by rw [World.cell?_alloc_new]; rfl), cell_later hb (by rw [World.cell?_alloc_new]; rfl), cell_later hb (by rw [World.cell?_alloc_new]; rfl)⟩)
  obtain ⟨W, hW⟩ : ∃ W, W = w.alloc (.cells #[.slice s0 l0 c0, .slice s1 l1 c1, .slice s2 l2 c2, .slice s3 l3 c3, .slice s4 l4 c4] 37) := ⟨_, rfl⟩
  have HW : Hid (Below w.heap.size w W) := hide (by rw [hW]; exact bal (brf w) _)
  rw [← hW] at HC1
  have HW' := hide hW
  have HWS : Hid (W.heap.size = w.heap.size + 1) := hide (by rw [hW]; simp)
  clear hW
  by_cases k2 : (512 : Int) < (l2 : Int)
  · have HF : Hid (RR = false) := hide (by
      rw [unhide HD]
      unfold countsN
      rw [decide_eq_false (p := l2 ≤ 512) (by omega)]
      simp)
    clear HC1 HD HP4 HP5 h0 h1 h2 h3 h4
    go_enter Tryz.func44, Tryz.ntmps44
    go_wp2
    exact bodyPost_ret (v := .bool false) (by simp [results, Tryz.results44, go_sem]) rfl ⟨by rw [unhide HF], bal (brf w) _⟩
  by_cases k0 : (2048 : Int) < (l0 : Int)
  · have HF : Hid (RR = false) := hide (by
      rw [unhide HD]
      unfold countsN
      rw [decide_eq_false (p := l0 ≤ 2048) (by omega)]
      simp)
    clear HC1 HD HP4 HP5 h0 h1 h2 h3 h4
    have f0 : decide ((512 : Int) < (l2 : Int)) = false := decide_eq_false k2
    go_enter Tryz.func44, Tryz.ntmps44
    go_wp2
    exact bodyPost_ret (v := .bool false) (by simp [results, Tryz.results44, go_sem]) rfl ⟨by rw [unhide HF], bal (brf w) _⟩
  by_cases k3 : (2048 : Int) < (l3 : Int)
  · have HF : Hid (RR = false) := hide (by
      rw [unhide HD]
      unfold countsN
      rw [decide_eq_false (p := l3 ≤ 2048) (by omega)]
      simp)
    clear HC1 HD HP4 HP5 h0 h1 h2 h3 h4
    have f0 : decide ((512 : Int) < (l2 : Int)) = false := decide_eq_false k2
    have f1 : decide ((2048 : Int) < (l0 : Int)) = false := decide_eq_false k0
    go_enter Tryz.func44, Tryz.ntmps44
    go_wp2
    exact bodyPost_ret (v := .bool false) (by simp [results, Tryz.results44, go_sem]) rfl ⟨by rw [unhide HF], bal (brf w) _⟩
  by_cases k4 : (2048 : Int) < (l4 : Int)
  · have HF : Hid (RR = false) := hide (by
      rw [unhide HD]
      unfold countsN
      rw [decide_eq_false (p := l4 ≤ 2048) (by omega)]
      simp)
    clear HC1 HD HP4 HP5 h0 h1 h2 h3 h4
    have f0 : decide ((512 : Int) < (l2 : Int)) = false := decide_eq_false k2
    have f1 : decide ((2048 : Int) < (l0 : Int)) = false := decide_eq_false k0
    have f2 : decide ((2048 : Int) < (l3 : Int)) = false := decide_eq_false k3
    go_enter Tryz.func44, Tryz.ntmps44
    go_wp2
    exact bodyPost_ret (v := .bool false) (by simp [results, Tryz.results44, go_sem]) rfl ⟨by rw [unhide HF], bal (brf w) _⟩
  by_cases k1 : (8 : Int) < (l1 : Int)
  · have HF : Hid (RR = false) := hide (by
      rw [unhide HD]
      unfold countsN
      rw [decide_eq_false (p := l1 ≤ 8) (by omega)]
      simp)
    clear HC1 HD HP4 HP5 h0 h1 h2 h3 h4
    have f0 : decide ((512 : Int) < (l2 : Int)) = false := decide_eq_false k2
    have f1 : decide ((2048 : Int) < (l0 : Int)) = false := decide_eq_false k0
    have f2 : decide ((2048 : Int) < (l3 : Int)) = false := decide_eq_false k3
    have f3 : decide ((2048 : Int) < (l4 : Int)) = false := decide_eq_false k4
    go_enter Tryz.func44, Tryz.ntmps44
    go_wp2
    exact bodyPost_ret (v := .bool false) (by simp [results, Tryz.results44, go_sem]) rfl ⟨by rw [unhide HF], bal (brf w) _⟩
  have HD2 : Hid (RR = (upB (blkSAt l0 g.blocks l1 (l0 + l2)) l2 && (namesB (g.ins ++ g.clocks) && (namesB ((g.blocks.filter (·.reg)).map (·.name)) && (portsB (l0 + l2) g.outs && portsB (l0 + l2) g.checks))))) := hide (by
    rw [unhide HD]
    rw [show countsN l0 l1 l2 l3 l4 = true by unfold countsN; rw [decide_eq_true (p := l2 ≤ 512) (by omega), decide_eq_true (p := l0 ≤ 2048) (by omega), decide_eq_true (p := l3 ≤ 2048) (by omega), decide_eq_true (p := l4 ≤ 2048) (by omega), decide_eq_true (p := l1 ≤ 8) (by omega)]; rfl]
    rfl)
  have f0 : decide ((512 : Int) < (l2 : Int)) = false := decide_eq_false k2
  have f1 : decide ((2048 : Int) < (l0 : Int)) = false := decide_eq_false k0
  have f2 : decide ((2048 : Int) < (l3 : Int)) = false := decide_eq_false k3
  have f3 : decide ((2048 : Int) < (l4 : Int)) = false := decide_eq_false k4
  have f4 : decide ((8 : Int) < (l1 : Int)) = false := decide_eq_false k1
  have d2 : l2 ≤ 512 := by omega
  have d0 : l0 ≤ 2048 := by omega
  have d1 : l1 ≤ 8 := by omega
  obtain ⟨VV, hVV⟩ : ∃ VV, l0 + l2 = VV := ⟨_, rfl⟩
  rw [hVV] at HD2 HP4 HP5
  have qVV : (l0 : Int) + (l2 : Int) = (VV : Int) := by omega
  have H0 := hide (fun (V : World) (hb : Below w.heap.size w V) => h0.later RStr.keeps hb)
  have H1 := hide (fun (V : World) (hb : Below w.heap.size w V) => h1.later RStr.keeps hb)
  have HH2 := hide (fun (V : World) (hb : Below w.heap.size w V) => h2.later RBlock.keeps hb)
  have HE := hide (And.intro e0 (And.intro e1 (And.intro e2 hVV)))
  have HBD := hide (And.intro b0 (And.intro b1 (And.intro d2 (And.intro d0 d1))))
  have HLEN3 := hide (show ([] : List ByteArray).length + g.ins.length ≤ 4194304 by have := unhide HE; simp; omega)
  have HLEN6 := hide (show g.ins.length + g.clocks.length ≤ 4194304 by have := unhide HE; omega)
  have HCAP : Hid (l2 ≤ c2) := hide (by
    obtain ⟨a', c', hv, h, _⟩ := h2
    injection hv with g1 g2 g3
    omega)
  clear HD h0 h1 h2 h3 h4 e0 e1 e2 e3 e4 b0 b1 b2 b3 b4 hVV d2 d0 d1
  go_enter Tryz.func44, Tryz.ntmps44
  go_wp2
  rw [← unhide HW', ← unhide HWS]
  clear f0 f1 f2 f3 f4 k2 k0 k3 k4 k1 qVV
  refine sBlk (W0 := W) (bs := g.blocks) (FA := l0) (N := VV) (l1 := l1) (pb := w.heap.size) (unhide HE).2.2.1.symm (by have := unhide HE; have := unhide HBD; omega) (by have := unhide HBD; omega) (hide (by have := unhide HE; omega)) (hide (by have := unhide HE; have := unhide HBD; omega)) (hide (by have := unhide HE; have := unhide HCAP; omega)) (hide (fun V hV => ⟨(unhide HC1 V hV).2.1, (unhide HC1 V hV).2.2.1⟩)) (hide ?_) (hide (OS_start rfl (Nat.le_refl _))) (hide (bal (brf W) _)) ?_ ?_
  · intro i x hx
    rcases (unhide HH2 W (unhide HW)).open with ⟨hn, _⟩ | ⟨b, o, c', hv, _, _, _, he⟩
    · rw [hn] at hx; simp at hx
    · injection hv with g1 g2 g3
      obtain ⟨u, hu, hat, v1, hux, hs, hrs⟩ := he i x hx
      obtain ⟨ai, ci, rfl⟩ := hrs.slice
      subst hux
      refine ⟨b, o, ai, ci, g1, ?_, fun j y hj => hat j y hj, hs, unhide HIL x (List.mem_of_getElem? hx), fun j y hj => ?_⟩
      · obtain ⟨a', c'', hv2, h, _⟩ := hrs
        injection hv2 with g4 g5 g6
        omega
      · rcases hrs.open with ⟨hn, _⟩ | ⟨b', o', c'', hv2, _, _, _, he2⟩
        · rw [hn] at hj; simp at hj
        · injection hv2 with g4 g5 g6
          obtain ⟨u, hu, hat2, hus⟩ := he2 j y hj
          subst hus
          exact ⟨b', o', g4, by simpa using hat2.get (j := 0) rfl⟩
  · intro hall y2 y6 y7 y8 y9 y10 y47 y48 y49 y50 y51 y52 y53 y54 y55 y56 y57 y58 y59 y60 y61 y62 y63 y64 y65 y66 y67 y68 y69 y70 y71 y72 y73 y74 y75 y76 y77 y78 y79 y80 y81 y82 y83 y84 y85 y86 y87 y88 y89 y90 y91 y92 y93 y94 y95 y96 y97 y98 y99 y100 y101 y102 y103 y104 y105 y106 y107 y108 y109 y110 y111 y112 y113 y114 y115 y116 y117 y118 y119 y120 y121 y122 y123 y124 y125 y126 y127 y128 y129 y130 y131 y132 y133 y134 y135 y136 y137 y138 y139 y140 y141 y142 y143 y144 y145 y146 y147 y148 y149 y150 y151 y152 y153 y154 y155 y156 y157 y158 y159 y160 y161 y162 y163 y164 y165 y166 y167 y168 y169 y170 y171 vr V1 hor hb1
    have HD4 : Hid (RR = (namesB (g.ins ++ g.clocks) && (namesB ((g.blocks.filter (·.reg)).map (·.name)) && (portsB VV g.outs && portsB VV g.checks)))) := hide (by
      rw [unhide HD2, show upB (blkSAt l0 g.blocks l1 VV) l2 = true by rw [← (unhide HE).2.2.1]; exact hall]
      rfl)
    have HB1 := hide hb1
    have HFL := hide (show ((g.blocks.filter (·.reg)).map (·.name)).length ≤ 1048576 by
      rw [List.length_map]
      have h1 := List.length_filter_le (fun b : Block => b.reg) g.blocks
      have := unhide HE; have := unhide HBD
      omega)
    have HNL0 := hide (fun (U : World) (hU : Below V1.heap.size V1 U) => sNames ((g.blocks.filter (·.reg)).map (·.name)) vr U (by have := unhide HFL; omega) ((hor.later hU).any (by have := unhide HFL; omega)))
    clear hall hor hb1 HD2 HH2 HIL
    go_wp2_with fail
    refine wp_plan (GA w.heap.size V1.heap.size (.slice s0 l0 c0) (.slice s1 l1 c1) g.ins g.clocks) (JA V1) (by kernel_rfl) 197 (by kernel_rfl) (by kernel_rfl) ?hj ?hs ?hf
    case hj => exact ⟨bdr (brf V1), fun h => (by simp [Array.getD] at h), fun h => (by simp [Array.getD] at h)⟩
    case hs =>
      refine ⟨?_, ?_, ?_, ?_, ?_, ?_, ?_, ?_, trivial⟩
      · intro l a V hp hu ha
        unfold opW
        rw [if_pos (wanted_none rfl)]
        refine .inl ⟨.slice (some ⟨V.heap.size, 0, none⟩) 0 0, V.alloc (.cells #[] 9), by go_simp, _, rfl, hp.j.keep (by decide) (bal (brf V) _), fun _ => OS_start rfl hp.j.1.size, fun _ _ _ _ h => h.keep (bal (brf V) _)⟩
      · exact sa_val (by decide) rfl (fun l a V hp ha => ⟨.pointer (some ⟨w.heap.size, 0, none⟩), by
          have x1 := (ev_form a 1).trans (old hp 1 (v := .pointer (some ⟨w.heap.size, 0, none⟩)) (by kernel_rfl) (by kernel_rfl))
          go_simp, fun _ => rfl⟩)
      · exact sa_val (by decide) rfl (fun l a V hp ha => ⟨(.slice s0 l0 c0), by
          have x173 := (ev_form a 173).trans (show a.eval (.tmp 173) = .pointer (some ⟨w.heap.size, 0, none⟩) from kn hp ha 173 1 (by kernel_rfl) (by kernel_rfl))
          obtain ⟨q0, q1, q2, q3, q4⟩ := unhide HC1 V (btr (unhide HB1) hp.j.1)
          go_simp, fun _ => rfl⟩)
      · intro l a V hp hu ha
        have hA : OS V1.heap.size V (a.eval (.tmp 172)) [] := (show GA w.heap.size V1.heap.size (.slice s0 l0 c0) (.slice s1 l1 c1) g.ins g.clocks l 0 V (a.eval (.tmp 172)) from kn hp ha 172 0 (by kernel_rfl) (by kernel_rfl)) (not_done hu)
        have hX : a.eval (.tmp 174) = (.slice s0 l0 c0) := kn hp ha 174 2 (by kernel_rfl) (by kernel_rfl)
        refine opApp rfl (.tmp 172) (.tmp 174) rfl V1.heap.size _ [] rfl hA _ g.ins hX (unhide H0 V (btr (unhide HW) (btr (unhide HB1) hp.j.1))) (unhide HLEN3) hp.j.1.size ?_
        intro v' w' ho hgr
        have hB' : Below V1.heap.size V1 w' := below_grown hp.j.1 hgr hp.j.1.size (own_row hA.1)
        have D0 := onB_spec (by kernel_rfl : onB _ 0 = true) ha
        have n6 : l.getD 6 false = false := by
          cases e : l.getD 6 false with
          | false => rfl
          | true => have := not_done hu; rw [hp.j.2.1 e] at this; cases this
        have n7 : l.getD 7 false = false := by
          cases e : l.getD 7 false with
          | false => rfl
          | true => rw [hp.j.2.2 e] at n6; cases n6
        refine ⟨v', rfl, ⟨hB', fun e => now_done hu, fun e => by rw [get_ne (by decide), n7] at e; cases e⟩, fun _ => ho, fun j d hd hj h => ?_⟩
        match j, hj, h with
        | 0, hj, h => exact fun e => by rw [now_done hu] at e; cases e
        | 1, hj, h => exact h
        | 2, hj, h => exact h
        | 3, hj, h => rw [not_done hu] at hj; cases hj
        | 4, hj, h => exact h
        | 5, hj, h => exact h
        | 6, hj, h => rw [n6] at hj; cases hj
        | 7, hj, h => rw [n7] at hj; cases hj
        | _ + 8, hj, h => trivial
      · exact sa_val (by decide) rfl (fun l a V hp ha => ⟨.pointer (some ⟨w.heap.size, 1, none⟩), by
          have x1 := (ev_form a 1).trans (old hp 1 (v := .pointer (some ⟨w.heap.size, 0, none⟩)) (by kernel_rfl) (by kernel_rfl))
          go_simp, fun _ => rfl⟩)
      · exact sa_val (by decide) rfl (fun l a V hp ha => ⟨(.slice s1 l1 c1), by
          have x176 := (ev_form a 176).trans (show a.eval (.tmp 176) = .pointer (some ⟨w.heap.size, 1, none⟩) from kn hp ha 176 4 (by kernel_rfl) (by kernel_rfl))
          obtain ⟨q0, q1, q2, q3, q4⟩ := unhide HC1 V (btr (unhide HB1) hp.j.1)
          go_simp, fun _ => rfl⟩)
      · intro l a V hp hu ha
        have hA : OS V1.heap.size V (a.eval (.tmp 175)) g.ins := (show GA w.heap.size V1.heap.size (.slice s0 l0 c0) (.slice s1 l1 c1) g.ins g.clocks l 3 V (a.eval (.tmp 175)) from kn hp ha 175 3 (by kernel_rfl) (by kernel_rfl)) (not_done hu)
        have hX : a.eval (.tmp 177) = (.slice s1 l1 c1) := kn hp ha 177 5 (by kernel_rfl) (by kernel_rfl)
        refine opApp rfl (.tmp 175) (.tmp 177) rfl V1.heap.size _ g.ins rfl hA _ g.clocks hX (unhide H1 V (btr (unhide HW) (btr (unhide HB1) hp.j.1))) (unhide HLEN6) hp.j.1.size ?_
        intro v' w' ho hgr
        have hB' : Below V1.heap.size V1 w' := below_grown hp.j.1 hgr hp.j.1.size (own_row hA.1)
        have D3 := onB_spec (by kernel_rfl : onB _ 3 = true) ha
        have n7 : l.getD 7 false = false := by
          cases e : l.getD 7 false with
          | false => rfl
          | true => have := not_done hu; rw [hp.j.2.2 e] at this; cases this
        refine ⟨v', rfl, ⟨hB', fun e => get_mono D3, fun e => now_done hu⟩, ho, fun j d hd hj h => ?_⟩
        match j, hj, h with
        | 0, hj, h => exact fun e => by rw [get_mono D3] at e; cases e
        | 1, hj, h => exact h
        | 2, hj, h => exact h
        | 3, hj, h => exact fun e => by rw [now_done hu] at e; cases e
        | 4, hj, h => exact h
        | 5, hj, h => exact h
        | 6, hj, h => rw [not_done hu] at hj; cases hj
        | 7, hj, h => rw [n7] at hj; cases hj
        | _ + 8, hj, h => trivial
      · intro l a V hp hu ha
        have f48 : OS V1.heap.size V (a.eval (.tmp 178)) (g.ins ++ g.clocks) := kn hp ha 178 6 (by kernel_rfl) (by kernel_rfl)
        have D6 := onB_spec (by kernel_rfl : onB _ 6 = true) ha
        have x48 := ev_form a 178
        unfold opW
        rw [if_pos (wanted_none rfl)]
        refine .inl ⟨a.eval (.tmp 178), V, by obtain ⟨t1, t2, t3, ht⟩ := f48.shape; rw [ht] at x48 ⊢; go_simp, _, rfl, ⟨hp.j.1, fun e => get_mono (hp.j.2.1 D6), fun e => get_mono D6⟩, f48, fun _ _ _ _ h => h.keep (brf V)⟩
    case hf =>
      intro l a V3 hp hall
      have hv : OS V1.heap.size V3 (a.eval (.tmp 11)) (g.ins ++ g.clocks) := hp.good 7 _ 11 rfl rfl (hall 7 (by decide))
      have HBV := hide hp.j.1
      obtain ⟨us, rfl, hus⟩ := putAll_of [172, 173, 174, 175, 176, 177, 178, 11] hp.nt hp.df (fun t ht => hp.keep t (dstIn (by kernel_rfl) ht))
      rw [← hus 11] at hv
      have HNV := hide hv
      clear hp hall hus hv
      simp only [putAll, List.foldl, Act.put, List.setIfInBounds_toArray, List.set_cons_zero, List.set_cons_succ]
      generalize us 172 = y172 at *
      generalize us 173 = y173 at *
      generalize us 174 = y174 at *
      generalize us 175 = y175 at *
      generalize us 176 = y176 at *
      generalize us 177 = y177 at *
      generalize us 178 = y178 at *
      generalize us 11 = y11 at *
      have HNR := hide (fun (U : World) (hU : Below V3.heap.size V3 U) => sNames (g.ins ++ g.clocks) y11 U (by have := unhide HE; have := unhide HBD; rw [List.length_append]; omega) (((unhide HNV).later hU).any (by have := unhide HE; have := unhide HBD; rw [List.length_append]; omega)))
      have HNL := hide (fun (U : World) (hU : Below V3.heap.size V3 U) => unhide HNL0 U (btr (unhide HBV) hU))
      have HW3 := hide (btr (unhide HB1) (unhide HBV))
      have HXX := hide (btr (unhide HW) (unhide HW3))
      clear HNV H0 H1 HLEN3 HLEN6 HNL0
      generalize namesB (g.ins ++ g.clocks) = p1 at *
      generalize namesB ((g.blocks.filter (·.reg)).map (·.name)) = p2 at *
      generalize portsB VV g.outs = p3 at *
      generalize portsB VV g.checks = p4 at *
      obtain ⟨t0, t1, t2, t3, t4⟩ := unhide HC1 V3 (unhide HW3)
      cases p1
      · go_wp2_with fail
        refine (unhide HNR _ (brf _)).mono ?_
        rintro e Y1 ⟨rfl, hy1⟩
        have HC_1 : Hid (Below V3.heap.size V3 Y1) := hide hy1
        obtain ⟨q10, q11, q12, q13, q14⟩ := unhide HC1 Y1 (btr (unhide HW3) (unhide HC_1))
        clear hy1
        go_wp2_with fail
        exact bodyPost_ret (v := .bool false) (by simp [results, Tryz.results44, go_sem]) rfl ⟨by rw [unhide HD4]; rfl, btr (unhide HXX) (unhide HC_1)⟩
      · cases p2
        · go_wp2_with fail
          refine (unhide HNR _ (brf _)).mono ?_
          rintro e Y1 ⟨rfl, hy1⟩
          have HC_1 : Hid (Below V3.heap.size V3 Y1) := hide hy1
          obtain ⟨q10, q11, q12, q13, q14⟩ := unhide HC1 Y1 (btr (unhide HW3) (unhide HC_1))
          clear hy1
          go_wp2_with fail
          refine (unhide HNL _ (unhide HC_1)).mono ?_
          rintro e Y2 ⟨rfl, hy2⟩
          have HC_2 : Hid (Below V3.heap.size V3 Y2) := hide (btr (unhide HC_1) hy2)
          obtain ⟨q20, q21, q22, q23, q24⟩ := unhide HC1 Y2 (btr (unhide HW3) (unhide HC_2))
          clear hy2 q10 q11 q12 q13 q14
          go_wp2_with fail
          exact bodyPost_ret (v := .bool false) (by simp [results, Tryz.results44, go_sem]) rfl ⟨by rw [unhide HD4]; rfl, btr (unhide HXX) (unhide HC_2)⟩
        · cases p3
          · go_wp2_with fail
            refine (unhide HNR _ (brf _)).mono ?_
            rintro e Y1 ⟨rfl, hy1⟩
            have HC_1 : Hid (Below V3.heap.size V3 Y1) := hide hy1
            obtain ⟨q10, q11, q12, q13, q14⟩ := unhide HC1 Y1 (btr (unhide HW3) (unhide HC_1))
            clear hy1
            go_wp2_with fail
            refine (unhide HNL _ (unhide HC_1)).mono ?_
            rintro e Y2 ⟨rfl, hy2⟩
            have HC_2 : Hid (Below V3.heap.size V3 Y2) := hide (btr (unhide HC_1) hy2)
            obtain ⟨q20, q21, q22, q23, q24⟩ := unhide HC1 Y2 (btr (unhide HW3) (unhide HC_2))
            clear hy2 q10 q11 q12 q13 q14
            go_wp2_with fail
            refine (unhide HP4 _ (btr (unhide HXX) (unhide HC_2))).mono ?_
            rintro e Y3 ⟨rfl, hy3⟩
            have HC_3 : Hid (Below V3.heap.size V3 Y3) := hide (btr (unhide HC_2) hy3)
            obtain ⟨q30, q31, q32, q33, q34⟩ := unhide HC1 Y3 (btr (unhide HW3) (unhide HC_3))
            clear hy3 q20 q21 q22 q23 q24
            go_wp2_with fail
            exact bodyPost_ret (v := .bool false) (by simp [results, Tryz.results44, go_sem]) rfl ⟨by rw [unhide HD4]; rfl, btr (unhide HXX) (unhide HC_3)⟩
          · cases p4
            · go_wp2_with fail
              refine (unhide HNR _ (brf _)).mono ?_
              rintro e Y1 ⟨rfl, hy1⟩
              have HC_1 : Hid (Below V3.heap.size V3 Y1) := hide hy1
              obtain ⟨q10, q11, q12, q13, q14⟩ := unhide HC1 Y1 (btr (unhide HW3) (unhide HC_1))
              clear hy1
              go_wp2_with fail
              refine (unhide HNL _ (unhide HC_1)).mono ?_
              rintro e Y2 ⟨rfl, hy2⟩
              have HC_2 : Hid (Below V3.heap.size V3 Y2) := hide (btr (unhide HC_1) hy2)
              obtain ⟨q20, q21, q22, q23, q24⟩ := unhide HC1 Y2 (btr (unhide HW3) (unhide HC_2))
              clear hy2 q10 q11 q12 q13 q14
              go_wp2_with fail
              refine (unhide HP4 _ (btr (unhide HXX) (unhide HC_2))).mono ?_
              rintro e Y3 ⟨rfl, hy3⟩
              have HC_3 : Hid (Below V3.heap.size V3 Y3) := hide (btr (unhide HC_2) hy3)
              obtain ⟨q30, q31, q32, q33, q34⟩ := unhide HC1 Y3 (btr (unhide HW3) (unhide HC_3))
              clear hy3 q20 q21 q22 q23 q24
              go_wp2_with fail
              refine (unhide HP5 _ (btr (unhide HXX) (unhide HC_3))).mono ?_
              rintro e Y4 ⟨rfl, hy4⟩
              have HC_4 : Hid (Below V3.heap.size V3 Y4) := hide (btr (unhide HC_3) hy4)
              obtain ⟨q40, q41, q42, q43, q44⟩ := unhide HC1 Y4 (btr (unhide HW3) (unhide HC_4))
              clear hy4 q30 q31 q32 q33 q34
              go_wp2_with fail
              exact bodyPost_ret (v := .bool false) (by simp [results, Tryz.results44, go_sem]) rfl ⟨by rw [unhide HD4]; rfl, btr (unhide HXX) (unhide HC_4)⟩
            · go_wp2_with fail
              refine (unhide HNR _ (brf _)).mono ?_
              rintro e Y1 ⟨rfl, hy1⟩
              have HC_1 : Hid (Below V3.heap.size V3 Y1) := hide hy1
              obtain ⟨q10, q11, q12, q13, q14⟩ := unhide HC1 Y1 (btr (unhide HW3) (unhide HC_1))
              clear hy1
              go_wp2_with fail
              refine (unhide HNL _ (unhide HC_1)).mono ?_
              rintro e Y2 ⟨rfl, hy2⟩
              have HC_2 : Hid (Below V3.heap.size V3 Y2) := hide (btr (unhide HC_1) hy2)
              obtain ⟨q20, q21, q22, q23, q24⟩ := unhide HC1 Y2 (btr (unhide HW3) (unhide HC_2))
              clear hy2 q10 q11 q12 q13 q14
              go_wp2_with fail
              refine (unhide HP4 _ (btr (unhide HXX) (unhide HC_2))).mono ?_
              rintro e Y3 ⟨rfl, hy3⟩
              have HC_3 : Hid (Below V3.heap.size V3 Y3) := hide (btr (unhide HC_2) hy3)
              obtain ⟨q30, q31, q32, q33, q34⟩ := unhide HC1 Y3 (btr (unhide HW3) (unhide HC_3))
              clear hy3 q20 q21 q22 q23 q24
              go_wp2_with fail
              refine (unhide HP5 _ (btr (unhide HXX) (unhide HC_3))).mono ?_
              rintro e Y4 ⟨rfl, hy4⟩
              have HC_4 : Hid (Below V3.heap.size V3 Y4) := hide (btr (unhide HC_3) hy4)
              obtain ⟨q40, q41, q42, q43, q44⟩ := unhide HC1 Y4 (btr (unhide HW3) (unhide HC_4))
              clear hy4 q30 q31 q32 q33 q34
              go_wp2_with fail
              exact bodyPost_ret (v := .bool true) (by simp [results, Tryz.results44, go_sem]) rfl ⟨by rw [unhide HD4]; rfl, btr (unhide HXX) (unhide HC_4)⟩
  · intro hall y6 y7 y8 y9 y10 y47 y48 y49 y50 y51 y52 y53 y54 y55 y56 y57 y58 y59 y60 y61 y62 y63 y64 y65 y66 y67 y68 y69 y70 y71 y72 y73 y74 y75 y76 y77 y78 y79 y80 y81 y82 y83 y84 y85 y86 y87 y88 y89 y90 y91 y92 y93 y94 y95 y96 y97 y98 y99 y100 y101 y102 y103 y104 y105 y106 y107 y108 y109 y110 y111 y112 y113 y114 y115 y116 y117 y118 y119 y120 y121 y122 y123 y124 y125 y126 y127 y128 y129 y130 y131 y132 y133 y134 y135 y136 y137 y138 y139 y140 y141 y142 y143 y144 y145 y146 y147 y148 y149 y150 y151 y152 y153 y154 y155 y156 y157 y158 y159 y160 y161 y162 y163 y164 y165 y166 y167 y168 y169 y170 y171 vr V1 hb1
    have HF : Hid (RR = false) := hide (by
      rw [unhide HD2, show upB (blkSAt l0 g.blocks l1 VV) l2 = false by rw [← (unhide HE).2.2.1]; exact hall]
      rfl)
    have HB1 := hide (btr (unhide HW) hb1)
    clear hall hb1 HD2
    go_wp2_with fail
    exact bodyPost_ret (v := .bool false) (by simp [results, Tryz.results44, go_sem]) rfl ⟨by rw [unhide HF], unhide HB1⟩
end Go.Proofs.YtlldfaniddbjaaaGreatDoor
