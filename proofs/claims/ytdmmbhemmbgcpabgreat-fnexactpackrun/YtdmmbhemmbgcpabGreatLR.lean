/- The law FnExactPackRun. -/
import Derived.Test.YtdmmbhemmbgcpabGreatPT10
import Derived.Test.YtdmmbhemmbgcpabGreatGPU7
import Derived.Test.YtdmmbhemmbgcpabGreatGDM2
import Derived.Test.YtdmmbhemmbgcpabGreatDS
import Derived.Test.YtdmmbhemmbgcpabGreatDT
import Derived.Test.YtdmmbhemmbgcpabGreatDE
namespace Go.Proofs.YtdmmbhemmbgcpabGreat
open Go Go.RowKit Gs
set_option linter.unusedVariables false
set_option linter.unusedSimpArgs false
set_option maxRecDepth 100000
def FL10 (v24 : Packed) (e1 e2 : Value) : Nat → World → Value → Prop
  | 0, W, v => v = e1
  | 1, W, v => v = e2
  | 2, W, v => ∃ u, v = .agg u ∧ RPacked W 0 v24 u.toList
  | 3, W, v => v = .bool true
  | 4, W, v => v = .bool false
  | _, _, _ => True
theorem FL10_lasts (v24 : Packed) (e1 e2 : Value) : Lasts (FL10 v24 e1 e2) := by
  intro k w w' v hb h
  match k, h with
  | 0, h => exact h
  | 1, h => exact h
  | 2, h => obtain ⟨u, e, hr⟩ := h; exact ⟨u, e, hr.later hb⟩
  | 3, h => exact h
  | 4, h => exact h
  | _ + 5, _ => trivial
theorem MK.under {B E : Nat} {W V : World} (h : MK B E W V) (hB : B ≤ W.heap.size) : Below B W V := ⟨h.os, h.tape, h.output, h.size, fun k hk => h.block k (by omega) (.inl hk)⟩
theorem OT.beyond {B E B' : Nat} {W V : World} {v : Value} {xs : List ByteArray} (h : OT B' W v xs) (hm : MK B E W V) (hE : E ≤ B') : OT B' V v xs := by
  obtain ⟨⟨h1, h2 | ⟨g, cap, cur, hv, hg, hc, rest⟩⟩, h3⟩ := h
  · exact ⟨⟨h1, .inl h2⟩, h3⟩
  · exact ⟨⟨h1, .inr ⟨g, cap, cur, hv, hg, (hm.block g (Array.getElem?_eq_some_iff.1 hc).1 (.inr (by omega))).trans hc, rest⟩⟩, h3⟩
theorem own_beyond {B E B' n e sz : Nat} {W V : World} {v : Value} {xs : List Value} (h : W.ownsRow B' e sz v n xs) (hm : MK B E W V) (hE : E ≤ B') : V.ownsRow B' e sz v n xs := by
  obtain ⟨h1, h2 | ⟨g, cap, cur, hv, hg, hc, rest⟩⟩ := h
  · exact ⟨h1, .inl h2⟩
  · exact ⟨h1, .inr ⟨g, cap, cur, hv, hg, (hm.block g (Array.getElem?_eq_some_iff.1 hc).1 (.inr (by omega))).trans hc, rest⟩⟩
theorem RowsO.beyond {W V : World} {B E B' E0 : Nat} {us : List (Value × Value × Value)} {rs : List Row} (h : RowsO W B' E us rs) (hm : MK B E0 W V) (hE : E0 ≤ B') : RowsO V B' E us rs := by
  induction h with
  | nil => exact .nil _
  | snoc h h1 h2 h3 o1 b1 o2 b2 o3 b3 ih =>
    have := h.le
    exact .snoc ih h1 h2 h3 (o1.beyond hm (by omega)) b1 (o2.beyond hm (by omega)) b2 (o3.beyond hm (by omega)) b3
/-- Rows of one's own that are read. -/
def RO (B : Nat) (W : World) (v : Value) (rs : List Row) : Prop := ∃ us E, W.ownsRow B 71 3 v rs.length (rcs us) ∧ RowsO W B E us rs
theorem RO.later {B : Nat} {W V : World} {v : Value} {rs : List Row} (h : RO B W v rs) (hb : Below W.heap.size W V) : RO B V v rs := by
  obtain ⟨us, E, h1, h2⟩ := h
  exact ⟨us, E, own_later h1 hb, h2.later hb⟩
theorem RO.beyond {B E B' : Nat} {W V : World} {v : Value} {rs : List Row} (h : RO B' W v rs) (hm : MK B E W V) (hE : E ≤ B') : RO B' V v rs := by
  obtain ⟨us, E', h1, h2⟩ := h
  exact ⟨us, E', own_beyond h1 hm hE, h2.beyond hm hE⟩
theorem RO.read {B : Nat} {W : World} {v : Value} {rs : List Row} (h : RO B W v rs) (hn : rs.length ≤ 4096) (hc : ∀ xs ∈ rts rs, xs.length ≤ 1048576) : RS 3 RRow W 0 rs v := by
  obtain ⟨us, E, h1, h2⟩ := h
  exact rows_read h1 h2 hn hc
theorem RO.shape {B : Nat} {W : World} {v : Value} {rs : List Row} (h : RO B W v rs) : ∃ a c, v = .slice a rs.length c := by
  obtain ⟨us, E, h1, h2⟩ := h
  exact own_shape h1
/-- Rows of one's own that bear their marks. -/
def MO (B : Nat) (W : World) (v : Value) (rs : List Row) : Prop := ∃ vs, W.ownsRow B 71 3 v rs.length vs ∧ FO W B vs (mks 1 (rts rs))
theorem MO.later {B : Nat} {W V : World} {v : Value} {rs : List Row} (h : MO B W v rs) (hb : Below W.heap.size W V) : MO B V v rs := by
  obtain ⟨vs, h1, h2⟩ := h
  exact ⟨vs, own_later h1 hb, h2.later hb⟩
theorem RO.marked {B : Nat} {W : World} {v : Value} {rs : List Row} (h : RO B W v rs) (hn : rs.length ≤ 4096) (hc : ∀ xs ∈ rts rs, xs.length ≤ 1048576) (hB : B ≤ W.heap.size) :
    Calls Tryz.prog 15 #[v, .int .i64 1] W fun e w' => e = .returned (.int .i64 ((1 + cntL (rts rs) : Nat) : Int)) ∧ MO B w' v rs ∧ Below B W w' := by
  obtain ⟨us, E, h1, h2⟩ := h
  refine (markRowS_of h1 h2.fo hn hc hB).mono ?_
  rintro e w' ⟨rfl, k1, k2, k3⟩
  exact ⟨rfl, ⟨_, k1, k2⟩, k3⟩
theorem MO.held {B : Nat} {W : World} {v : Value} {rs : List Row} (h : MO B W v rs) (hn : rs.length ≤ 4096) (hc : ∀ xs ∈ rts rs, xs.length ≤ 1048576) :
    Calls Tryz.prog 16 #[v, .int .i64 1] W fun e w' => e = .returned (.int .i64 ((1 + cntL (rts rs) : Nat) : Int)) ∧ Below W.heap.size W w' := by
  obtain ⟨vs, h1, h2⟩ := h
  exact heldRowS_of h1 h2 hn hc
theorem rowsP_parts (x : Packed) : ∀ (steps : List Step) (st : List Bool), ∀ r ∈ rowsP x st steps, r.outs.length = x.outs.length ∧ r.checks.length = x.checks.length ∧ r.regs.length ≤ x.blocks.length
  | [], _, r, hr => by cases hr
  | s :: t, st, r, hr => by
    rw [rowsP] at hr
    rcases List.mem_cons.1 hr with e | e
    · subst e
      refine ⟨?_, ?_, ?_⟩
      · unfold rowP; simp
      · unfold rowP; simp
      · unfold rowP
        have := numsB_two x.blocks x.blocks.length
        simp; omega
    · exact rowsP_parts x t _ r e
theorem runP_len (x : Packed) (steps : List Step) : (runP x steps).1.length ≤ 4096 := by
  unfold runP
  split
  · rename_i h
    split
    · split
      · show (rowsP x (st0P x) steps).length ≤ 4096
        rw [rowsP_len]; exact h
      · exact Nat.zero_le _
    · exact Nat.zero_le _
  · exact Nat.zero_le _
theorem runP_parts (x : Packed) (steps : List Step) : ∀ xs ∈ rts (runP x steps).1, xs.length ≤ 1048576 := by
  intro xs hx
  unfold runP at hx
  split at hx
  · split at hx
    · rename_i h
      split at hx
      · have hf := PkFit.of h
        unfold rts at hx
        rw [List.mem_flatMap] at hx
        obtain ⟨r, hr, hxr⟩ := hx
        obtain ⟨p1, p2, p3⟩ := rowsP_parts x steps (st0P x) r hr
        have n2 := hf.n2
        have n3 := hf.n3
        have n4 := hf.n4
        simp only [List.mem_cons, List.not_mem_nil, or_false] at hxr
        rcases hxr with rfl | rfl | rfl <;> omega
      · simp [rts] at hx
    · simp [rts] at hx
  · simp [rts] at hx
set_option maxHeartbeats 64000000 in
theorem lPackRun (x : Packed) (u : List Value) (zs : List Step) (vz : Value) (w : World) (hr : RPacked w 0 x u) (hz : RS 2 RStep w 0 zs vz) :
    Calls Tryz.prog 3 #[.agg u.toArray, vz] w fun e w' => e = .returned (.bool true) ∧ Below w.heap.size w w' := by
  have SZ := hide (fun (W : World) (hb : Below w.heap.size w W) => szPacked_of x u W 1048576 (Nat.le_refl _) (hr.later hb))
  have SS := hide (fun (left : Nat) (hl : left ≤ 1048576) (W : World) (hb : Below w.heap.size w W) => szStepS_of zs vz W left hl (hz.later RStep.keeps hb))
  have TN := hide (fun (hl : szPacked x ≤ 1048576) (W : World) (hb : Below w.heap.size w W) => toPacked_of x u W hl (hr.later hb))
  have TZ := hide (fun (hl : szL szStep zs ≤ 1048576) (W : World) (hb : Below w.heap.size w W) => toStepS_of zs vz W hl (hz.later RStep.keeps hb))
  obtain ⟨az, cz, rfl⟩ := hz.slice
  obtain ⟨v0, v1, v2, v3, v4, rfl, h0, h1, h2, h3, h4⟩ := hr
  obtain ⟨s0, c0, e0⟩ := h0.slice
  obtain ⟨s1, c1, e1⟩ := h1.slice
  obtain ⟨s2, c2, e2⟩ := h2.slice
  obtain ⟨s3, c3, e3⟩ := h3.slice
  obtain ⟨s4, c4, e4⟩ := h4.slice
  subst e0 e1 e2 e3 e4
  clear h0 h1 h2 h3 h4 hz
  show Calls Tryz.prog 3 #[.agg #[.slice s0 x.ins.length c0, .slice s1 x.clocks.length c1, .slice s2 x.blocks.length c2, .slice s3 x.outs.length c3, .slice s4 x.checks.length c4], .slice az zs.length cz] w _
  change Hid (∀ (W : World), Below w.heap.size w W → Calls Tryz.prog 4 #[.agg #[.slice s0 x.ins.length c0, .slice s1 x.clocks.length c1, .slice s2 x.blocks.length c2, .slice s3 x.outs.length c3, .slice s4 x.checks.length c4], .int .i64 (1048576 : Int)] W _) at SZ
  change Hid (∀ (hl : szPacked x ≤ 1048576) (W : World), Below w.heap.size w W → Calls Tryz.prog 7 #[.agg #[.slice s0 x.ins.length c0, .slice s1 x.clocks.length c1, .slice s2 x.blocks.length c2, .slice s3 x.outs.length c3, .slice s4 x.checks.length c4]] W _) at TN
  by_cases hs : szPacked x ≤ 1048576
  · have hsz := szR_le hs
    rw [hsz] at SZ
    obtain ⟨left, hleft⟩ : ∃ left, left = 1048576 - szPacked x := ⟨_, rfl⟩
    rw [← hleft] at SZ
    have hll : left ≤ 1048576 := by omega
    have hneg : decide (((left : Nat) : Int) < 0) = false := decide_eq_false (by omega)
    have SS' := hide (fun W hb => unhide SS left hll W hb)
    clear SS hsz
    by_cases hs2 : szL szStep zs ≤ left
    · have hzs : szL szStep zs ≤ 1048576 := by omega
      have hzl : zs.length ≤ 1048576 := by have := szL_sm szStep zs; omega
      have hsz2 := szR_le hs2
      rw [hsz2] at SS'
      have hneg2 : decide (((left - szL szStep zs : Nat) : Int) < 0) = false := decide_eq_false (by omega)
      have TN' := hide (fun W hb => unhide TN hs W hb)
      have TZ' := hide (fun W hb => unhide TZ hzs W hb)
      have HS := hide hs
      have HZS := hide hzs
      clear TN TZ hsz2
      generalize ((left - szL szStep zs : Nat) : Int) = left2 at *
      generalize ((left : Nat) : Int) = left1 at *
      have hrl := runP_len x zs
      have HRL := hide hrl
      have HRC := hide (runP_parts x zs)
      have HSR := hide (fun (u : List Value) (v : Value) (W : World) (h : RPacked W 0 x u) (h2 : RS 2 RStep W 0 zs v) => sPackRun x u zs v W hs h h2 hzl)
      have HIR := hide (fun (u : List Value) (v : Value) (W : World) (h : RPacked W 0 x u) (h2 : RS 2 RStep W 0 zs v) => iPackRun x u zs v W hs h h2 hzl)
      generalize (runP x zs).1 = rs at *
      generalize (runP x zs).2 = rc at *
      have hne : (rc != rc) = false := by simp
      clear hs hs2 hzs hleft hll hrl
      have HZL := hide hzl
      clear hzl
      go_enter Tryz.func3, Tryz.ntmps3
      go_wp2_with fail
      refine (unhide SZ _ (bal (brf w) _)).mono ?_
      rintro e W1 ⟨rfl, hb1⟩
      have HX1 : Hid (B5 26 w (.slice s0 x.ins.length c0) (.slice s1 x.clocks.length c1) (.slice s2 x.blocks.length c2) (.slice s3 x.outs.length c3) (.slice s4 x.checks.length c4) W1) := hide hb1
      clear hb1 SZ
      go_wp2_with fail
      refine (unhide SS' _ (unhide HX1).below).mono ?_
      rintro e W1b ⟨rfl, hb1⟩
      have HX1b := hide ((unhide HX1).then hb1)
      clear hb1 HX1 SS'
      obtain ⟨q0, q1, q2, q3, q4⟩ := (unhide HX1b).get
      go_wp2_with fail
      refine (unhide TN' _ (unhide HX1b).below).mono ?_
      rintro e W2 ⟨⟨u1, rfl, hr1⟩, hb2, _⟩
      have HX2 := hide ((unhide HX1b).then hb2)
      have HR1 := hide hr1.any
      clear hb2 hr1 q0 q1 q2 q3 q4 HX1b
      go_wp2_with fail
      refine (unhide TZ' _ (unhide HX2).below).mono ?_
      rintro e W2b ⟨⟨z1, rfl, hz1⟩, hb2, _⟩
      have HX2b := hide ((unhide HX2).then hb2)
      have HR1b := hide ((unhide HR1).later hb2)
      have HZ1 := hide (RS.low RStep.lowers (Nat.zero_le _) hz1)
      obtain ⟨az1, cz1, rfl⟩ := hz1.slice
      clear hb2 hz1 HX2 HR1
      go_wp2_with fail
      refine (unhide HSR u1 _ _ (unhide HR1b) (unhide HZ1)).mono ?_
      rintro e W3 ⟨⟨vw, usw, Ew, rfl, how1, how2, _⟩, hb3⟩
      have HX3 := hide ((unhide HX2b).then hb3)
      have how : RO W2b.heap.size W3 vw rs := ⟨usw, Ew, how1, how2⟩
      have HOW := hide (how.read (unhide HRL) (unhide HRC))
      obtain ⟨wa, wc, rfl⟩ := how.shape
      clear hb3 how how1 how2 HX2b HR1b HZ1 HSR
      obtain ⟨q0, q1, q2, q3, q4⟩ := (unhide HX3).get
      go_wp2_with fail
      refine (unhide TN' _ (unhide HX3).below).mono ?_
      rintro e W4 ⟨⟨u2, rfl, hr2⟩, hb4, hnf⟩
      have HX4 := hide ((unhide HX3).then hb4)
      have HR2 := hide hr2
      have HNF := hide hnf
      have HB34 := hide hb4
      obtain ⟨y0, y1, y2, y3, y4, rfl, g0, g1, g2, g3, g4⟩ := hr2
      obtain ⟨a0, f0, e0⟩ := g0.slice
      obtain ⟨a1, f1, e1⟩ := g1.slice
      obtain ⟨a2, f2, e2⟩ := g2.slice
      obtain ⟨a3, f3, e3⟩ := g3.slice
      obtain ⟨a4, f4, e4⟩ := g4.slice
      subst e0 e1 e2 e3 e4
      have hsz4 := hb4.size
      clear hb4 hnf g0 g1 g2 g3 g4 q0 q1 q2 q3 q4
      go_wp2_with fail
      refine (unhide TZ' _ (btr (unhide HX4).below (bal (brf _) _))).mono ?_
      rintro e W5 ⟨⟨z2, rfl, hz2⟩, hb5, hnf5⟩
      have HY : Hid (B5 36 W4 (.slice a0 x.ins.length f0) (.slice a1 x.clocks.length f1) (.slice a2 x.blocks.length f2) (.slice a3 x.outs.length f3) (.slice a4 x.checks.length f4) W5) := hide hb5
      have hs5 := (unhide HY).below.size
      have HX5 := hide ((unhide HX4).then (unhide HY).below)
      have HB35 := hide (btr (unhide HB34) (unhide HY).below)
      have HNF5 := hide (nf_tr (nf_al (unhide HNF) #[.slice a0 x.ins.length f0, .slice a1 x.clocks.length f1, .slice a2 x.blocks.length f2, .slice a3 x.outs.length f3, .slice a4 x.checks.length f4] 36) hb5 hnf5)
      have HR5 := hide ((unhide HR2).later (unhide HY).below)
      have HZ5 := hide (RS.low RStep.lowers (show W3.heap.size ≤ _ by simp; omega) hz2)
      obtain ⟨az2, cz2, rfl⟩ := hz2.slice
      clear hb5 hnf5 hz2 HNF HR2 HX4 HB34
      obtain ⟨p0, p1, p2, p3, p4⟩ := (unhide HY).get
      go_wp2_with fail
      refine (unhide HIR _ _ _ (unhide HR5).any (RS.low RStep.lowers (Nat.zero_le _) (unhide HZ5))).mono ?_
      rintro e W6 ⟨⟨vg, usg, Eg, rfl, hog1, hog2, _⟩, hb6⟩
      have HX6 := hide ((unhide HX5).then hb6)
      have HY6 := hide ((unhide HY).then hb6)
      have HB36 := hide (btr (unhide HB35) hb6)
      have HB56 := hide hb6
      have hog : RO W5.heap.size W6 vg rs := ⟨usg, Eg, hog1, hog2⟩
      have HOG := hide hog
      obtain ⟨ga, gc, rfl⟩ := hog.shape
      clear hb6 hog hog1 hog2 HX5 HY HB35 p0 p1 p2 p3 p4
      have G1 := hide ((unhide HOG).read (unhide HRL) (unhide HRC))
      have G2 := hide ((unhide HOW).later RRow.keeps (unhide HB36))
      go_wp2_with fail
      refine (eqRowS_of rs _ _ _ (unhide G1) (unhide G2)).mono ?_
      rintro e W7 ⟨rfl, hb7⟩
      have HX7 := hide ((unhide HX6).then hb7)
      have HY7 := hide ((unhide HY6).then hb7)
      have HB37 := hide (btr (unhide HB36) hb7)
      have HB57 := hide (btr (unhide HB56) hb7)
      have HOG7 := hide ((unhide HOG).later hb7)
      clear hb7 HX6 HY6 HB36 HB56 HOG G1 G2
      have EQ := hide (fun W (u3 : Array Value) (h : RPacked W 0 x [.slice a0 x.ins.length f0, .slice a1 x.clocks.length f1, .slice a2 x.blocks.length f2, .slice a3 x.outs.length f3, .slice a4 x.checks.length f4]) (h3 : RPacked W 0 x u3.toList) => (show Calls Tryz.prog 11 #[.agg #[.slice a0 x.ins.length f0, .slice a1 x.clocks.length f1, .slice a2 x.blocks.length f2, .slice a3 x.outs.length f3, .slice a4 x.checks.length f4], .agg u3] W _ from eqPacked_of x _ u3.toList W h h3))
      have HR7 := hide ((unhide HR5).any.later (unhide HB57))
      go_wp2_with fail
      have LS := FL10_lasts x (.agg #[.slice a0 x.ins.length f0, .slice a1 x.clocks.length f1, .slice a2 x.blocks.length f2, .slice a3 x.outs.length f3, .slice a4 x.checks.length f4]) (.agg #[.slice s0 x.ins.length c0, .slice s1 x.clocks.length c1, .slice s2 x.blocks.length c2, .slice s3 x.outs.length c3, .slice s4 x.checks.length c4])
      refine wp_plan (GW (FL10 x (.agg #[.slice a0 x.ins.length f0, .slice a1 x.clocks.length f1, .slice a2 x.blocks.length f2, .slice a3 x.outs.length f3, .slice a4 x.checks.length f4]) (.agg #[.slice s0 x.ins.length c0, .slice s1 x.clocks.length c1, .slice s2 x.blocks.length c2, .slice s3 x.outs.length c3, .slice s4 x.checks.length c4]))) (JB W7) (by kernel_rfl) 119 (by kernel_rfl) (by kernel_rfl) ?hj ?hs ?hf
      case hj => exact bdr (brf W7)
      case hs =>
        refine ⟨?_, ?_, ?_, ?_, ?_, trivial⟩
        · exact sl_val rfl (fun l a V hp ha => ⟨.agg #[.slice a0 x.ins.length f0, .slice a1 x.clocks.length f1, .slice a2 x.blocks.length f2, .slice a3 x.outs.length f3, .slice a4 x.checks.length f4], by
            have x8 := (ev_form a 8).trans (old hp 8 (v := .pointer (some ⟨W4.heap.size, 0, none⟩)) (by kernel_rfl) (by kernel_rfl))
            obtain ⟨p0, p1, p2, p3, p4⟩ := ((unhide HY7).then hp.j).get
            go_simp, rfl⟩)
        · exact sl_val rfl (fun l a V hp ha => ⟨.agg #[.slice s0 x.ins.length c0, .slice s1 x.clocks.length c1, .slice s2 x.blocks.length c2, .slice s3 x.outs.length c3, .slice s4 x.checks.length c4], by
            have x2 := (ev_form a 2).trans (old hp 2 (v := .pointer (some ⟨w.heap.size, 0, none⟩)) (by kernel_rfl) (by kernel_rfl))
            obtain ⟨p0, p1, p2, p3, p4⟩ := ((unhide HX7).then hp.j).get
            go_simp, rfl⟩)
        · exact sl_call (f := 7) LS rfl (fun l a V hp ha => ⟨#[.agg #[.slice s0 x.ins.length c0, .slice s1 x.clocks.length c1, .slice s2 x.blocks.length c2, .slice s3 x.outs.length c3, .slice s4 x.checks.length c4]], by
            have x55 := (ev_form a 55).trans (show a.eval (.tmp 55) = .agg #[.slice s0 x.ins.length c0, .slice s1 x.clocks.length c1, .slice s2 x.blocks.length c2, .slice s3 x.outs.length c3, .slice s4 x.checks.length c4] from kn hp ha 55 1 (by kernel_rfl) (by kernel_rfl))
            go_simp, (unhide TN' V (btr (unhide HX7).below hp.j)).mono (by rintro e V1 ⟨⟨u3, rfl, hr3⟩, hb, _⟩; exact ⟨_, rfl, ⟨u3.toArray, rfl, by simpa using hr3.any⟩, hb⟩)⟩)
        · refine sl_call (f := 11) LS rfl (fun l a V hp ha => ?_)
          have x54 := (ev_form a 54).trans (show a.eval (.tmp 54) = .agg #[.slice a0 x.ins.length f0, .slice a1 x.clocks.length f1, .slice a2 x.blocks.length f2, .slice a3 x.outs.length f3, .slice a4 x.checks.length f4] from kn hp ha 54 0 (by kernel_rfl) (by kernel_rfl))
          obtain ⟨u3, h56, hr3⟩ : ∃ u3, a.eval (.tmp 56) = .agg u3 ∧ RPacked V 0 x u3.toList := kn hp ha 56 2 (by kernel_rfl) (by kernel_rfl)
          have x56 := (ev_form a 56).trans h56
          refine ⟨#[.agg #[.slice a0 x.ins.length f0, .slice a1 x.clocks.length f1, .slice a2 x.blocks.length f2, .slice a3 x.outs.length f3, .slice a4 x.checks.length f4], .agg u3], by go_simp, (unhide EQ V u3 ((unhide HR7).later hp.j) hr3).mono ?_⟩
          rintro e V1 ⟨rfl, hb⟩
          exact ⟨_, rfl, rfl, hb⟩
        · exact sl_val rfl (fun l a V hp ha => ⟨.bool false, by
            have x57 := (ev_form a 57).trans (show a.eval (.tmp 57) = .bool true from kn hp ha 57 3 (by kernel_rfl) (by kernel_rfl))
            go_simp, rfl⟩)
      case hf =>
      intro l a W8 hp hall
      have hv := hp.good 4 _ 58 rfl rfl (hall 4 (by decide))
      have hb8 : Below W7.heap.size W7 W8 := hp.j
      obtain ⟨us, rfl, hus⟩ := putAll_of [54, 55, 56, 57, 58] hp.nt hp.df (fun t ht => hp.keep t (dstIn (by kernel_rfl) ht))
      have hv2 : us 58 = .bool false := by rw [hus 58]; exact hv
      clear hp hall hv hus
      simp only [putAll, List.foldl, Act.put, List.setIfInBounds_toArray, List.set_cons_zero, List.set_cons_succ, hv2]
      clear hv2
      generalize us 54 = z54 at *
      generalize us 55 = z55 at *
      generalize us 56 = z56 at *
      generalize us 57 = z57 at *
      have HX8 := hide ((unhide HX7).then hb8)
      have HY8 := hide ((unhide HY7).then hb8)
      have HB38 := hide (btr (unhide HB37) hb8)
      have HB58 := hide (btr (unhide HB57) hb8)
      have HOG8 := hide ((unhide HOG7).later hb8)
      clear hb8 HX7 HY7 HB37 HB57 HOG7 EQ HR7 LS
      go_wp2_with fail
      refine (unhide TZ' _ (unhide HX8).below).mono ?_
      rintro e W9 ⟨⟨z3, rfl, hz3⟩, hb9, _⟩
      have HX9 := hide ((unhide HX8).then hb9)
      have HY9 := hide ((unhide HY8).then hb9)
      have HB39 := hide (btr (unhide HB38) hb9)
      have HB59 := hide (btr (unhide HB58) hb9)
      have HOG9 := hide ((unhide HOG8).later hb9)
      have HZ9 := hide (RS.low RStep.lowers (Nat.zero_le _) hz3)
      obtain ⟨az3, cz3, rfl⟩ := hz3.slice
      clear hb9 hz3 HX8 HY8 HB38 HB58 HOG8
      go_wp2_with fail
      refine (eqStepS_of zs _ _ _ (RS.low RStep.lowers (Nat.zero_le _) ((unhide HZ5).later RStep.keeps (unhide HB59))) (unhide HZ9)).mono ?_
      rintro e W10 ⟨rfl, hb10⟩
      have HX10 := hide ((unhide HX9).then hb10)
      have HY10 := hide ((unhide HY9).then hb10)
      have HB310 := hide (btr (unhide HB39) hb10)
      have HB510 := hide (btr (unhide HB59) hb10)
      have HOG10 := hide ((unhide HOG9).later hb10)
      have hs310 := (unhide HB310).size
      clear hb10 HX9 HY9 HB39 HB59 HOG9 HZ9
      obtain ⟨p0, p1, p2, p3, p4⟩ := (unhide HY10).get
      go_wp2_with fail
      refine (markPacked_of x _ W5 W3.heap.size (unhide HR5) (unhide HS) (unhide HNF5) W10 (MK.later (.refl _ _ _) (unhide HB510))).mono ?_
      rintro e W11 ⟨⟨k, rfl, k0, k1⟩, hm11⟩
      have HMM := hide (MK.trans (MK.later (.refl _ _ _) (unhide HB510)) hm11)
      have HB311 := hide ((unhide HB310).trans (hm11.under hs310))
      have HOG11 := hide ((unhide HOG10).beyond hm11 (Nat.le_refl _))
      have HKI := hide (KS.of (K := KStep) (by decide) (unhide HZ5) (fun i x u hx h => KStep.of h (by have := sm_get (f := szStep) hx; have := szL_sm szStep zs; have := unhide HZS; omega)))
      have hs311 := (unhide HB311).size
      have sz11 := hm11.size
      have sz10 := (unhide HB510).size
      clear hm11 HX10 HY10 HB310 HOG10 p0 p1 p2 p3 p4
      go_wp2_with fail
      refine (markStepS_of zs.length _ W5 W3.heap.size W5.heap.size (unhide HZL) (unhide HKI) (unhide HNF5) W11 k k0 (by omega) (unhide HMM)).mono ?_
      rintro e W12 ⟨⟨k', rfl, k2, k3⟩, hm12⟩
      have hneg8 : decide (k' < 0) = false := decide_eq_false (by omega)
      have HB312 := hide ((unhide HB311).trans (hm12.under hs311))
      have HOG12 := hide ((unhide HOG11).beyond hm12 (Nat.le_refl _))
      have G1 := hide ((unhide HOG12).read (unhide HRL) (unhide HRC))
      have G2 := hide ((unhide HOW).later RRow.keeps (unhide HB312))
      have sz12 := hm12.size
      clear hm12 k0 k1 k2 k3 HB311 HOG11 HMM HKI
      go_wp2_with fail
      refine (eqRowS_of rs _ _ _ (unhide G1) (unhide G2)).mono ?_
      rintro e W13 ⟨rfl, hb13⟩
      have HB313 := hide (btr (unhide HB312) hb13)
      have HOG13 := hide ((unhide HOG12).later hb13)
      have hs513 : W5.heap.size ≤ W13.heap.size := by
        have := hb13.size
        omega
      clear hb13 HB312 HOG12 G1 G2
      clear sz10 sz11 sz12 hs310 hs311
      have hs35 : W3.heap.size ≤ W5.heap.size := by omega
      go_wp2_with fail
      refine ((unhide HOG13).marked (unhide HRL) (unhide HRC) hs513).mono ?_
      rintro e W14 ⟨rfl, hmk, hb14⟩
      have HB314 := hide ((unhide HB313).trans (hb14.mono hs35))
      have HMK := hide hmk
      obtain ⟨mm, hmm⟩ : ∃ mm : Int, ((1 + cntL (rts rs) : Nat) : Int) = mm := ⟨_, rfl⟩
      have HH := hide (fun (W : World) (h : MO W5.heap.size W (.slice ga rs.length gc) rs) => h.held (unhide HRL) (unhide HRC))
      have hneg9 : decide (mm < 0) = false := decide_eq_false (by omega)
      have hnem : (mm != mm) = false := by simp
      rw [hmm] at HH ⊢
      clear hmk hb14 HB313 HOG13 hmm
      go_wp2_with fail
      refine (unhide HH _ (unhide HMK)).mono ?_
      rintro e W15 ⟨rfl, hb15⟩
      have HX15 : Hid (B5 26 w (.slice s0 x.ins.length c0) (.slice s1 x.clocks.length c1) (.slice s2 x.blocks.length c2) (.slice s3 x.outs.length c3) (.slice s4 x.checks.length c4) W15) := hide (Below.trans (unhide HX3) ((btr (unhide HB314) hb15).mono (by have := (unhide HX3).size; omega)))
      have HB315 := hide (btr (unhide HB314) hb15)
      have HMK15 := hide ((unhide HMK).later hb15)
      clear hb15 HB314 HMK
      obtain ⟨q0, q1, q2, q3, q4⟩ := (unhide HX15).get
      go_wp2_with fail
      refine (unhide TN' _ (unhide HX15).below).mono ?_
      rintro e W16 ⟨⟨u4, rfl, hr4⟩, hb16, _⟩
      have HX16 := hide ((unhide HX15).then hb16)
      have HB316 := hide (btr (unhide HB315) hb16)
      have HMK16 := hide ((unhide HMK15).later hb16)
      have HR4 := hide hr4.any
      clear hb16 hr4 q0 q1 q2 q3 q4 HX15 HB315 HMK15
      go_wp2_with fail
      refine (unhide TZ' _ (unhide HX16).below).mono ?_
      rintro e W17 ⟨⟨z4, rfl, hz4⟩, hb17, _⟩
      have HX17 := hide ((unhide HX16).then hb17)
      have HB317 := hide (btr (unhide HB316) hb17)
      have HMK17 := hide ((unhide HMK16).later hb17)
      have HR4b := hide ((unhide HR4).later hb17)
      have HZ4 := hide (RS.low RStep.lowers (Nat.zero_le _) hz4)
      obtain ⟨az4, cz4, rfl⟩ := hz4.slice
      clear hb17 hz4 HX16 HB316 HMK16 HR4
      go_wp2_with fail
      refine (unhide HIR _ _ _ (unhide HR4b) (unhide HZ4)).mono ?_
      rintro e W18 ⟨⟨vh, ush, Eh, rfl, hoh1, hoh2, _⟩, hb18⟩
      have HX18 := hide ((unhide HX17).then hb18)
      have HB318 := hide (btr (unhide HB317) hb18)
      have HMK18 := hide ((unhide HMK17).later hb18)
      have hoh : RO W17.heap.size W18 vh rs := ⟨ush, Eh, hoh1, hoh2⟩
      have HOH := hide hoh
      obtain ⟨ha, hc, rfl⟩ := hoh.shape
      clear hb18 hoh hoh1 hoh2 HX17 HB317 HMK17 HR4b HZ4
      have G1 := hide ((unhide HOH).read (unhide HRL) (unhide HRC))
      have G2 := hide ((unhide HOW).later RRow.keeps (unhide HB318))
      go_wp2_with fail
      refine (eqRowS_of rs _ _ _ (unhide G1) (unhide G2)).mono ?_
      rintro e W19 ⟨rfl, hb19⟩
      have HX19 := hide ((unhide HX18).then hb19)
      have HMK19 := hide ((unhide HMK18).later hb19)
      clear hb19 G1 G2 HX18 HMK18
      go_wp2_with fail
      refine (unhide HH _ (unhide HMK19)).mono ?_
      rintro e W20 ⟨rfl, hb20⟩
      have HB := hide (btr (unhide HX19).below hb20)
      clear HX19 HMK19 HH hb20
      go_wp2
      go_ret
      exact ⟨rfl, unhide HB⟩
    · have hsz2 := szR_lt (s := szL szStep zs) (left := left) (by omega)
      rw [hsz2] at SS'
      clear TN TZ
      generalize ((left : Nat) : Int) = left1 at *
      go_enter Tryz.func3, Tryz.ntmps3
      go_wp2_with fail
      refine (unhide SZ _ (bal (brf w) _)).mono ?_
      rintro e W1 ⟨rfl, hb1⟩
      have HB := hide (btr (bal (brf w) _) hb1)
      clear hb1
      go_wp2_with fail
      refine (unhide SS' _ (unhide HB)).mono ?_
      rintro e W2 ⟨rfl, hb2⟩
      have HB2 := hide (btr (unhide HB) hb2)
      clear hb2
      go_wp2
      go_ret
      exact ⟨rfl, unhide HB2⟩
  · have hsz := szR_lt (s := szPacked x) (left := 1048576) (by omega)
    rw [hsz] at SZ
    clear TN TZ SS
    go_enter Tryz.func3, Tryz.ntmps3
    go_wp2_with fail
    refine (unhide SZ _ (bal (brf w) _)).mono ?_
    rintro e W1 ⟨rfl, hb1⟩
    have HB := hide (btr (bal (brf w) _) hb1)
    clear hb1
    go_wp2
    go_ret
    exact ⟨rfl, unhide HB⟩
end Go.Proofs.YtdmmbhemmbgcpabGreat
