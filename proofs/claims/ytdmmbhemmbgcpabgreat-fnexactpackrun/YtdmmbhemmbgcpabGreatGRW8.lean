/- unpacked: the registers, one after another. -/
import Derived.Test.YtdmmbhemmbgcpabGreatGPU2
import Derived.Test.YtdmmbhemmbgcpabGreatPR4
import Derived.Test.YtdmmbhemmbgcpabGreatGRW4
import Derived.Test.YtdmmbhemmbgcpabGreatGFB
namespace Go.Proofs.YtdmmbhemmbgcpabGreat
open Go Go.RowKit Gs
set_option linter.unusedVariables false
set_option linter.unusedSimpArgs false
set_option maxRecDepth 100000
def regOf (bs : List Block) (N : Nat) (q : Int × Nat) : MapReg := ⟨(bs.getD q.1.toNat blk0).name, ((N + q.2 : Nat) : Int), (bs.getD q.1.toNat blk0).init, (bs.getD q.1.toNat blk0).clock⟩
set_option maxHeartbeats 32000000 in
theorem unLoop6 {u0 u2 u3 u4 u5 u6 u7 u8 u10 u11 u12 u13 u14 u15 u16 u17 u18 u19 u20 u21 u22 u23 u24 u25 u26 u27 u28 u29 u30 u31 u32 u33 u34 u35 u36 u37 u38 u39 u40 u41 u42 u43 u44 u45 u46 u47 u48 u49 u50 u51 u52 u53 u54 u55 u56 u57 u58 u59 u60 u61 u62 u63 u64 u65 u66 u67 u68 u69 u70 u71 u72 u73 u74 u75 u76 u77 u78 u79 u80 u81 u82 u83 u84 u85 u86 u87 u88 u89 u90 u91 u92 u93 u94 u95 u96 u100 u101 u102 u103 u104 u105 u106 u107 u108 u109 u110 u111 u112 u113 u114 u115 u116 u117 u118 u119 u120 u121 u122 u123 u124 u125 u126 : Value} {pb bm N l0 c0 l1 c1 l2 c2 l3 c3 l4 c4 ML cL : Nat} {aL s0 s1 s2 s3 s4 : Option Addr} {L : List Int} {bs : List Block} {m0 m1 m3 m4 m5 : Value} {w W : World} {Q : Exit → Act → World → Prop} (hN : N ≤ 2097152) (hML : L.length = ML) (hM1 : ML ≤ 1048576) (hbs : bs.length ≤ 1048576) (HB0 : Hid (Below w.heap.size w W)) (HRB : Hid (RS 6 RBlock w 0 bs (.slice s2 l2 c2))) (HP : Hid (W.cell? ⟨pb, 0, none⟩ = some (.slice s0 l0 c0) ∧ W.cell? ⟨pb, 1, none⟩ = some (.slice s1 l1 c1) ∧ W.cell? ⟨pb, 2, none⟩ = some (.slice s2 l2 c2) ∧ W.cell? ⟨pb, 3, none⟩ = some (.slice s3 l3 c3) ∧ W.cell? ⟨pb, 4, none⟩ = some (.slice s4 l4 c4))) (HPT : Hid (TB W pb 36))
    (HL : Hid (OI w.heap.size W (.slice aL ML cL) L)) (HLB : Hid (∀ (q : Nat) (j : Int), L[q]? = some j → ∃ k : Nat, j = (k : Int) ∧ k < bs.length)) (HSO : Hid (∀ V : World, Calls Tryz.prog 67 #[.agg #[.slice s0 l0 c0, .slice s1 l1 c1, .slice s2 l2 c2, .slice s3 l3 c3, .slice s4 l4 c4]] V fun e w' => e = .returned (.int .i64 (N : Int)) ∧ Below V.heap.size V w'))
    (HM : Hid (MM W bm [m0, m1, .slice none 0 0, m3, m4, m5])) (HBM : Hid (w.heap.size ≤ bm))
    (hT : ∀ (z13 z14 z15 z99 z100 z101 z102 z103 z104 z105 z106 z107 z108 z109 z110 z111 z112 z113 z114 z115 z116 z117 z118 z119 z120 z121 z122 z123 z124 z125 z126 : Value) vr V, KT w.heap.size bm 127 W V → MM V bm [m0, m1, vr, m3, m4, m5] → OW 127 4 regC w.heap.size V vr (L.zipIdx.map (regOf bs N)) → Q (.exit 6) { tmps := (u0 :: .pointer (some ⟨pb, 0, none⟩) :: u2 :: u3 :: u4 :: u5 :: u6 :: u7 :: u8 :: .pointer (some ⟨bm, 0, none⟩) :: u10 :: u11 :: u12 :: z13 :: z14 :: z15 :: u16 :: u17 :: u18 :: u19 :: u20 :: u21 :: u22 :: u23 :: u24 :: u25 :: u26 :: u27 :: u28 :: u29 :: u30 :: u31 :: u32 :: u33 :: u34 :: u35 :: u36 :: u37 :: u38 :: u39 :: u40 :: u41 :: u42 :: u43 :: u44 :: u45 :: u46 :: u47 :: u48 :: u49 :: u50 :: u51 :: u52 :: u53 :: u54 :: u55 :: u56 :: u57 :: u58 :: u59 :: u60 :: u61 :: u62 :: u63 :: u64 :: u65 :: u66 :: u67 :: u68 :: u69 :: u70 :: u71 :: u72 :: u73 :: u74 :: u75 :: u76 :: u77 :: u78 :: u79 :: u80 :: u81 :: u82 :: u83 :: u84 :: u85 :: u86 :: u87 :: u88 :: u89 :: u90 :: u91 :: u92 :: u93 :: u94 :: u95 :: u96 :: .slice aL ML cL :: .int .i64 (ML : Int) :: z99 :: z100 :: z101 :: z102 :: z103 :: z104 :: z105 :: z106 :: z107 :: z108 :: z109 :: z110 :: z111 :: z112 :: z113 :: z114 :: z115 :: z116 :: z117 :: z118 :: z119 :: z120 :: z121 :: z122 :: z123 :: z124 :: z125 :: z126 :: []).toArray, defers := [] } V) :
    Code.wp Tryz.prog (atB 6 (bodyOf Tryz.f36)) Q { tmps := (u0 :: .pointer (some ⟨pb, 0, none⟩) :: u2 :: u3 :: u4 :: u5 :: u6 :: u7 :: u8 :: .pointer (some ⟨bm, 0, none⟩) :: u10 :: u11 :: u12 :: u13 :: u14 :: u15 :: u16 :: u17 :: u18 :: u19 :: u20 :: u21 :: u22 :: u23 :: u24 :: u25 :: u26 :: u27 :: u28 :: u29 :: u30 :: u31 :: u32 :: u33 :: u34 :: u35 :: u36 :: u37 :: u38 :: u39 :: u40 :: u41 :: u42 :: u43 :: u44 :: u45 :: u46 :: u47 :: u48 :: u49 :: u50 :: u51 :: u52 :: u53 :: u54 :: u55 :: u56 :: u57 :: u58 :: u59 :: u60 :: u61 :: u62 :: u63 :: u64 :: u65 :: u66 :: u67 :: u68 :: u69 :: u70 :: u71 :: u72 :: u73 :: u74 :: u75 :: u76 :: u77 :: u78 :: u79 :: u80 :: u81 :: u82 :: u83 :: u84 :: u85 :: u86 :: u87 :: u88 :: u89 :: u90 :: u91 :: u92 :: u93 :: u94 :: u95 :: u96 :: .slice aL ML cL :: .int .i64 (ML : Int) :: .int .i64 0 :: u100 :: u101 :: u102 :: u103 :: u104 :: u105 :: u106 :: u107 :: u108 :: u109 :: u110 :: u111 :: u112 :: u113 :: u114 :: u115 :: u116 :: u117 :: u118 :: u119 :: u120 :: u121 :: u122 :: u123 :: u124 :: u125 :: u126 :: []).toArray, defers := [] } W := by
  have HT := hide hT
  clear hT
  have HWS := hide (unhide HB0).size
  have HPM := hide (TB.ne (unhide HPT) (unhide HM).tb (by decide))
  conv => arg 2; whnf
  go_loopw [99] (fun i wr => ∃ (k : Nat) (vr : Value), k ≤ ML ∧ i = .int .i64 k ∧ KT w.heap.size bm 127 W wr ∧ MM wr bm [m0, m1, vr, m3, m4, m5] ∧ OW 127 4 regC w.heap.size wr vr ((L.take k).zipIdx.map (regOf bs N))) (fun i wr => ML - (intOf i).toNat)
  case atStart => exact ⟨0, _, Nat.zero_le _, rfl, KT.refl _ _ _ _, unhide HM, OW.nil⟩
  case round =>
    obtain ⟨k, vr, hk, rfl, hkt, hmb, how⟩ := hrel
    by_cases hlt : k < ML
    · have hx : L[k]? = some (L[k]'(by omega)) := List.getElem?_eq_getElem (by omega)
      generalize L[k]'(by omega) = j at hx
      obtain ⟨n, rfl, hnb⟩ := unhide HLB k j hx
      have hbx : bs[n]? = some bs[n] := List.getElem?_eq_getElem hnb
      obtain ⟨NK, hNK⟩ : ∃ NK : Nat, NK = N + k := ⟨_, rfl⟩
      have htl : (L.take k).length = k := by rw [List.length_take]; omega
      have HST : Hid ((L.take (k + 1)).zipIdx.map (regOf bs N) = (L.take k).zipIdx.map (regOf bs N) ++ [⟨bs[n].name, (NK : Int), bs[n].init, bs[n].clock⟩]) := hide (by
        rw [List.take_add_one, hx, List.zipIdx_append, List.map_append, htl]
        unfold regOf
        simp only [Option.toList_some, List.zipIdx_cons, List.zipIdx_nil, List.map_cons, List.map_nil, Int.toNat_natCast, List.getD_eq_getElem?_getD, hbx, Option.getD_some, Nat.zero_add, hNK])
      generalize bs[n] = b at hbx HST
      obtain ⟨b2, o2, a1, d1, hs2, hcap, hl2, hcell, hrin, hnm⟩ := block_cells (unhide HRB) hbx
      have hbw : Below w.heap.size w wr := hkt.below (unhide HB0) (Nat.le_refl _) (unhide HBM) (unhide HWS)
      have z0 := cell_later hbw (hcell 0 _ rfl)
      have z1 := cell_later hbw (hcell 1 _ rfl)
      have z2 := cell_later hbw (hcell 2 _ rfl)
      have z3 := cell_later hbw (hcell 3 _ rfl)
      have z4 := cell_later hbw (hcell 4 _ rfl)
      have z5 := cell_later hbw (hcell 5 _ rfl)
      simp only [Nat.add_zero] at z0
      have ho : OI w.heap.size wr (.slice aL ML cL) L := (unhide HL).kt hkt (unhide HM) (by decide)
      obtain ⟨bL, oL, haL, hcL, k0⟩ := ho.cells (by omega) hx
      have hpc : ∀ o, wr.cell? ⟨pb, o, none⟩ = W.cell? ⟨pb, o, none⟩ := fun o => (heap_cell (hkt.tb (unhide HPT) (unhide HPM) (by decide))).1
      have hpw : wr.cell? ⟨pb, 0, none⟩ = some (.slice s0 l0 c0) ∧ wr.cell? ⟨pb, 1, none⟩ = some (.slice s1 l1 c1) ∧ wr.cell? ⟨pb, 2, none⟩ = some (.slice s2 l2 c2) ∧ wr.cell? ⟨pb, 3, none⟩ = some (.slice s3 l3 c3) ∧ wr.cell? ⟨pb, 4, none⟩ = some (.slice s4 l4 c4) := by
        rw [hpc, hpc, hpc, hpc, hpc]; exact unhide HP
      have k1 := hpw.2.2.1
      obtain ⟨B1, hB1⟩ : ∃ B1, B1 = wr.alloc (.cells #[.string b.name, .slice a1 b.inp.length d1, .int .i64 b.table, .bool b.reg, .int .i64 b.init, .int .i64 b.clock] 66) := ⟨_, rfl⟩
      have HBB : Hid (Below wr.heap.size wr B1) := hide (by rw [hB1]; exact bal (brf wr) _)
      have Y1 : Hid (B1.cell? ⟨wr.heap.size, 0, none⟩ = some (.string b.name) ∧ B1.cell? ⟨wr.heap.size, 4, none⟩ = some (.int .i64 b.init) ∧ B1.cell? ⟨wr.heap.size, 5, none⟩ = some (.int .i64 b.clock)) := hide (by
        refine ⟨?_, ?_, ?_⟩ <;> (rw [hB1, World.cell?_alloc_new]; rfl))
      have HPV : Hid (∀ V, Below B1.heap.size B1 V → V.cell? ⟨pb, 0, none⟩ = some (.slice s0 l0 c0) ∧ V.cell? ⟨pb, 1, none⟩ = some (.slice s1 l1 c1) ∧ V.cell? ⟨pb, 2, none⟩ = some (.slice s2 l2 c2) ∧ V.cell? ⟨pb, 3, none⟩ = some (.slice s3 l3 c3) ∧ V.cell? ⟨pb, 4, none⟩ = some (.slice s4 l4 c4)) := hide (fun V hV => by
        have hb := btr (unhide HBB) hV
        exact ⟨cell_later hb hpw.1, cell_later hb hpw.2.1, cell_later hb hpw.2.2.1, cell_later hb hpw.2.2.2.1, cell_later hb hpw.2.2.2.2⟩)
      have HMB := hide (hmb.later (unhide HBB))
      have HKT := hide (hkt.trans (KT.of (unhide HBB)))
      have HKL := hide (show ((L.take k).zipIdx.map (regOf bs N)).length = k by rw [List.length_map, List.length_zipIdx, htl])
      have HRW : Hid (B1.ownsRow w.heap.size 127 4 vr k (((L.take k).zipIdx.map (regOf bs N)).flatMap regC)) := hide (by
        have := row_later how (unhide HBB)
        rw [unhide HKL] at this
        exact this)
      have HSZ : Hid (w.heap.size ≤ B1.heap.size) := hide (btr hbw (unhide HBB)).size
      have HTB := hide (unhide HMB).tb
      have HML2 : Hid (B1.cell? ⟨bm, 2, none⟩ = some vr) := hide ((unhide HMB).cell 2)
      have HMF := hide ((unhide HMB).frozen 2)
      have HK : Hid (k ≤ 1048576) := hide (by omega)
      have HNK : Hid ((N : Int) + (k : Int) = (NK : Int) ∧ NK ≤ 4194304) := hide ⟨by omega, by omega⟩
      have i0 : (0 : Int) ≤ (k : Int) := by omega
      have i1 : (k : Int) < (ML : Int) := by omega
      have i2 : (0 : Int) ≤ (n : Int) := by omega
      have i3 : (n : Int) < (l2 : Int) := by omega
      have HB1 := hide hB1
      have HLT := hide hlt
      clear hkt hmb how hx hbx hcell hrin hnm hbw ho hnb HRB HP HL HLB HM HT hML HPT hB1 hl2 hlt hpc hpw hNK htl
      subst haL
      subst hs2
      go_wp2
      rw [← unhide HB1]
      clear z0 z1 z2 z3 z4 z5
      refine unRound2 HRW HK HNK HSZ HTB HML2 HMF Y1 HPV HSO _ rfl rfl rfl rfl rfl ?_
      intro a V V' v hnt hdf hkeep hAU hV
      obtain ⟨hown, V0, hb0, hg0⟩ := hAU
      have hrow0 := row_later (unhide HRW) hb0
      have hkt0 : KT w.heap.size bm 127 V0 V' := KT.grown hg0 (fun q hq => row_tb hrow0 q hq)
      have hmm0 := (unhide HMB).later hb0
      have hmm1 := hmm0.grown hg0 (fun e => (row_ne hrow0 hmm0.tb (by decide)) e.symm)
      have hkt1 : KT w.heap.size bm 127 B1 V' := (KT.of hb0).trans hkt0
      have hkt2 : KT w.heap.size bm 127 V' V := by rw [hV]; exact KT.set 2 V' v
      have hkt3 : KT w.heap.size bm 0 V' V := by rw [hV]; exact KT.set 2 V' v
      have R1 := hide ((unhide HKT).trans (hkt1.trans hkt2))
      have R2 : Hid (MM V bm [m0, m1, v, m3, m4, m5]) := hide (by rw [hV]; exact hmm1.set 2 v)
      have R3 : Hid (OW 127 4 regC w.heap.size V v ((L.take (k + 1)).zipIdx.map (regOf bs N))) := hide (by
        rw [unhide HST]
        unfold OW
        rw [List.length_append, unhide HKL, List.flatMap_append]
        exact row_keep hown hkt3 (row_ne hown hmm1.tb (by decide)) (by decide))
      obtain ⟨us', rfl, hus'⟩ := putAll_of [109, 110, 111, 112, 113, 114, 115, 116, 117, 118, 119, 120, 121, 122, 123, 124] hnt hdf hkeep
      clear hnt hdf hkeep hus' hown hb0 hg0 hrow0 hkt0 hkt1 hkt2 hkt3 hmm0 hmm1 hV HRW HTB HML2 HMF Y1 HMB HKT HST HPV HKL
      simp only [putAll, List.foldl, Act.put, List.setIfInBounds_toArray, List.set_cons_zero, List.set_cons_succ]
      go_wp2
      go_roundw
      case rel => exact ⟨k + 1, v, by have := unhide HLT; omega, by go_num, unhide R1, unhide R2, unhide R3⟩
      case measure => have := unhide HLT; simp [intOf]; omega
    · obtain rfl : k = ML := by omega
      rw [List.take_of_length_le (by omega)] at how
      have HX := hide (unhide HT)
      have H1 := hide hkt
      have H2 := hide hmb
      have H3 := hide how
      clear HT hkt hmb how HRB HP HL HLB HM
      go_wp2
      exact unhide HX _ _ _ _ _ _ _ _ _ _ _ _ _ _ _ _ _ _ _ _ _ _ _ _ _ _ _ _ _ _ _ _ _ (unhide H1) (unhide H2) (unhide H3)
end Go.Proofs.YtdmmbhemmbgcpabGreat
namespace Go.Proofs.YtdmmbhemmbgcpabGreat
open Go Go.RowKit
set_option linter.unusedVariables false
section
variable {P : Program} {ops : Array Oper} {a0 : Act} {F : Nat → Value → Prop} {F2 : Nat → World → Value → Prop} {w0 : World} {n : Nat} {m : Nat} {A : Value → World → Prop} {E : World → Prop}
/-- Of what operation m gave one knows A once the last one is done. -/
abbrev G2 (F : Nat → Value → Prop) (F2 : Nat → World → Value → Prop) (n m : Nat) (A : Value → World → Prop) : Array Bool → Nat → World → Value → Prop := fun l k w v => F k v ∧ (l.getD n false = false → F2 k w v) ∧ (k = m → l.getD n false = true → A v w)
theorem G2.low {l : Array Bool} {a : Act} {w : World} (hp : PA ops (G2 F F2 n m A) (JE w0 n E) a0 l a w) {k : Nat} (hn : (ops[n]?).any (fun o => onB o.after k) = true) (hu : l.getD k true = false) : l.getD n false = false := by
  cases e : l.getD n false with
  | false => rfl
  | true =>
    exfalso
    cases ho : ops[n]? with
    | none => rw [ho] at hn; simp at hn
    | some o =>
      rw [ho] at hn
      have hd := onB_spec (by simpa using hn) (hp.down n o ho e)
      rw [notDoneB hu] at hd
      cases hd
theorem s2_val {k : Nat} {o : Oper} (hne : k ≠ n) (hn : (ops[n]?).any (fun o => onB o.after k) = true) (hg : o.guard = none) (h : ∀ l a w, PA ops (G2 F F2 n m A) (JE w0 n E) a0 l a w → Below w0.heap.size w0 w → (∀ e ∈ o.after, Region.binds .any e = true → l.getD e.on false = true) → ∃ x, (execOp a.eval o).run P w = .ok (.value x) w ∧ F k x ∧ F2 k w x) : Stp P ops (G2 F F2 n m A) (JE w0 n E) a0 k o := by
  intro l a w hp hu ha
  have hl := G2.low hp hn hu
  have hb := hp.j.1 hl
  have hst : (l.setIfInBounds k true).getD n false = false := by rw [set_ite (lt_of_undone hu), if_neg (fun e => hne e.symm), hl]
  obtain ⟨x, hr, hf, hf2⟩ := h l a w hp hb ha
  unfold opW
  rw [if_pos (wanted_none hg)]
  exact .inl ⟨x, w, hr, x, rfl, JE.step hne hu hl hb, ⟨hf, fun _ => hf2, fun _ e => (by rw [hst] at e; cases e)⟩, fun _ _ _ _ h => ⟨h.1, fun _ => h.2.1 hl, fun _ e => (by rw [hst] at e; cases e)⟩⟩
theorem s2_new {k : Nat} {o : Oper} (hL : Lasts F2) (hne : k ≠ n) (hn : (ops[n]?).any (fun o => onB o.after k) = true) (hg : o.guard = none) (h : ∀ l a w, PA ops (G2 F F2 n m A) (JE w0 n E) a0 l a w → Below w0.heap.size w0 w → (∀ e ∈ o.after, Region.binds .any e = true → l.getD e.on false = true) → ∃ x ob, (execOp a.eval o).run P w = .ok (.value x) (w.alloc ob) ∧ F k x ∧ F2 k (w.alloc ob) x) : Stp P ops (G2 F F2 n m A) (JE w0 n E) a0 k o := by
  intro l a w hp hu ha
  have hl := G2.low hp hn hu
  have hb := hp.j.1 hl
  have hst : (l.setIfInBounds k true).getD n false = false := by rw [set_ite (lt_of_undone hu), if_neg (fun e => hne e.symm), hl]
  obtain ⟨x, ob, hr, hf, hf2⟩ := h l a w hp hb ha
  unfold opW
  rw [if_pos (wanted_none hg)]
  exact .inl ⟨x, _, hr, x, rfl, JE.step hne hu hl (bal hb ob), ⟨hf, fun _ => hf2, fun _ e => (by rw [hst] at e; cases e)⟩, fun _ _ _ _ h => ⟨h.1, fun _ => hL _ _ _ _ (bal (brf w) ob) (h.2.1 hl), fun _ e => (by rw [hst] at e; cases e)⟩⟩
theorem s2_last {o : Oper} {t : Tmp} (hmn : m ≠ n) (hd : (ops[m]?).bind (·.dst) = some t) (hg : o.guard = none) (h : ∀ l a w, PA ops (G2 F F2 n m A) (JE w0 n E) a0 l a w → l.getD n false = false → Below w0.heap.size w0 w → (∀ e ∈ o.after, Region.binds .any e = true → l.getD e.on false = true) → ∃ w', (execOp a.eval o).run P w = .ok .skip w' ∧ E w' ∧ A (a.eval (.tmp t)) w') (hf : F n undef) : Stp P ops (G2 F F2 n m A) (JE w0 n E) a0 n o := by
  intro l a w hp hu ha
  have hb := hp.j.1 (notDoneB hu)
  obtain ⟨w', hr, hE, hA⟩ := h l a w hp (notDoneB hu) hb ha
  unfold opW
  rw [if_pos (wanted_none hg)]
  have e : (l.setIfInBounds n true).getD n false = true := by rw [set_ite (lt_of_undone hu), if_pos rfl]
  refine .inr (.inl ⟨w', hr, undef, rfl, ⟨fun h => (by rw [e] at h; cases h), fun _ => hE⟩, ⟨hf, fun h => (by rw [e] at h; cases h), fun e2 => absurd e2.symm hmn⟩, fun j d hj _ h => ⟨h.1, fun h2 => (by rw [e] at h2; cases h2), fun e2 _ => ?_⟩⟩)
  subst e2
  rw [hd] at hj
  injection hj with hj
  subst hj
  exact hA
end
end Go.Proofs.YtdmmbhemmbgcpabGreat
