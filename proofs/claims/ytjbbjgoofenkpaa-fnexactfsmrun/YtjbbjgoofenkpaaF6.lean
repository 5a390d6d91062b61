/- The program's FsmOK. -/
import Derived.Test.YtjbbjgoofenkpaaF5
namespace Go.Proofs.Ytjbbjgoofenkpaa
open Go.RowKit Gs
set_option linter.unusedVariables false
set_option linter.unusedSimpArgs false
set_option maxRecDepth 100000
attribute [local go_sem] Oper.semAt_some
/-- One state's row. -/
def rowAt (f : Fsm) (s : Nat) : Bool := rowB f.ins f.outBits f.states.length (f.next.getD s []) (f.outs.getD s [])
/-- What the program's FsmOK answers. -/
def fsmI (f : Fsm) : Bool := cntB f.ins f.outBits f.states.length f.next.length f.outs.length && (f.states.all txtB && decide f.states.Nodup) && (List.range f.states.length).all (rowAt f)
structure FW (w : World) (f : Fsm) (v2 v3 v4 : Value) : Prop where
  st : RS 1 RStr w 0 f.states v2
  nx : RS 1 RIntS w 0 f.next v3
  ou : RS 1 RStringS w 0 f.outs v4
theorem FW.later {w W : World} {f : Fsm} {v2 v3 v4 : Value} (h : FW w f v2 v3 v4) (hb : Below w.heap.size w W) : FW W f v2 v3 v4 := ⟨h.st.later RStr.keeps hb, h.nx.later RIntS.keeps hb, h.ou.later RStringS.keeps hb⟩
theorem cntB_parts {ins ob : Int} {n2 n3 n4 : Nat} (h : cntB ins ob n2 n3 n4 = true) : 0 ≤ ins ∧ ins ≤ 5 ∧ 1 ≤ ob ∧ ob ≤ 64 ∧ 1 ≤ n2 ∧ n2 ≤ 64 ∧ n3 = n2 ∧ n4 = n2 := by
  unfold cntB at h
  simp only [Bool.and_eq_true, decide_eq_true_eq] at h
  omega
/-- rowFits of a state. -/
theorem iRowAt (f : Fsm) (a2 a3 a4 : Option Addr) (c2 c3 c4 : Nat) (w : World) (h : FW w f (.slice a2 f.states.length c2) (.slice a3 f.next.length c3) (.slice a4 f.outs.length c4)) (hc : cntB f.ins f.outBits f.states.length f.next.length f.outs.length = true) (s : Nat) (hs : s < f.states.length) :
    Calls Try.prog 36 #[.agg #[.int .i64 f.ins, .int .i64 f.outBits, .slice a2 f.states.length c2, .slice a3 f.next.length c3, .slice a4 f.outs.length c4], .int .i64 (s : Int)] w fun e w' => e = .returned (.bool (rowAt f s)) ∧ Below w.heap.size w w' := by
  obtain ⟨k0, k1, _, _, _, k5, k6, k7⟩ := cntB_parts hc
  have hx3 : f.next[s]? = some f.next[s] := List.getElem?_eq_getElem (by omega)
  have hx4 : f.outs[s]? = some f.outs[s] := List.getElem?_eq_getElem (by omega)
  have hra : rowAt f s = rowB f.ins f.outBits f.states.length f.next[s] f.outs[s] := by
    unfold rowAt
    rw [List.getD_eq_getElem?_getD, List.getD_eq_getElem?_getD, hx3, hx4]; rfl
  rw [hra]
  rcases h.nx.open with ⟨hnil, _⟩ | ⟨b3, o3, cc3, e3, _, _, _, hcs3⟩
  · have e : f.next.length = 0 := by rw [hnil]; rfl
    omega
  rcases h.ou.open with ⟨hnil, _⟩ | ⟨b4, o4, cc4, e4, _, _, _, hcs4⟩
  · have e : f.outs.length = 0 := by rw [hnil]; rfl
    omega
  obtain rfl : a3 = some ⟨b3, o3, none⟩ := by injection e3
  obtain rfl : a4 = some ⟨b4, o4, none⟩ := by injection e4
  obtain ⟨u3, _, at3, v3, rfl, r3⟩ := hcs3 s _ hx3
  obtain ⟨u4, _, at4, v4, rfl, r4⟩ := hcs4 s _ hx4
  obtain ⟨x1, y1, ev3⟩ := r3.slice
  obtain ⟨x2, y2, ev4⟩ := r4.slice
  subst ev3 ev4
  have m3 := at3.get (j := 0) rfl
  have m4 := at4.get (j := 0) rfl
  simp only [Nat.add_zero, Nat.mul_one] at m3 m4
  exact iRow f.ins f.outBits f.states.length f.next.length f.outs.length _ _ c2 c3 c4 y1 y2 b3 o3 b4 o4 s a2 x1 x2 _ _ w k0 k1 rfl rfl r3 r4 (by omega) (by omega) (by omega) (by omega) (by omega) m3 m4
set_option maxHeartbeats 16000000 in
open Go.Shelf in
theorem iFsmOK (f : Fsm) (u : List Value) (w : World) (hr : RFsm w 0 f u) :
    Calls Try.prog 23 #[.agg u.toArray] w fun e w' => e = .returned (.bool (fsmI f)) ∧ Below w.heap.size w w' := by
  obtain ⟨v2, v3, v4, rfl, h2, h3, h4⟩ := hr
  have hfw : FW w f v2 v3 v4 := ⟨h2, h3, h4⟩
  have l2 := h2.len
  have l3 := h3.len
  have l4 := h4.len
  obtain ⟨a2, c2, rfl⟩ := h2.slice
  obtain ⟨a3, c3, rfl⟩ := h3.slice
  obtain ⟨a4, c4, rfl⟩ := h4.slice
  show Calls Try.prog 23 #[.agg #[.int .i64 f.ins, .int .i64 f.outBits, .slice a2 f.states.length c2, .slice a3 f.next.length c3, .slice a4 f.outs.length c4]] w _
  have CT := hide (fun V => iCounts f.ins f.outBits a2 a3 a4 _ _ _ c2 c3 c4 V l2 l3 l4)
  have HFW := hide hfw
  obtain ⟨cb, hcb⟩ : ∃ cb, cntB f.ins f.outBits f.states.length f.next.length f.outs.length = cb := ⟨_, rfl⟩
  have HF := hide (show fsmI f = (cb && (f.states.all txtB && decide f.states.Nodup) && (List.range f.states.length).all (rowAt f)) by unfold fsmI; rw [hcb])
  have HCB := hide hcb
  rw [hcb] at CT
  have TX := hide (fun (hc : cb = true) (V : World) (hb : Below w.heap.size w V) => iTexts f (.int .i64 f.ins) (.int .i64 f.outBits) (.slice a3 f.next.length c3) (.slice a4 f.outs.length c4) (.slice a2 f.states.length c2) V (h2.later RStr.keeps hb) (cntB_parts (hcb.trans hc)).2.2.2.2.2.1)
  have RA := hide (fun (hc : cb = true) (V : World) (hb : Below w.heap.size w V) (s : Nat) (hs : s < f.states.length) => iRowAt f a2 a3 a4 c2 c3 c4 V (hfw.later hb) (hcb.trans hc) s hs)
  have L64 := hide (fun (hc : cb = true) => (cntB_parts (hcb.trans hc)).2.2.2.2.2.1)
  clear h2 h3 h4 hfw hcb l2 l3 l4
  refine (callsIn_wide (n := 6)).1 ?_
  refine callsIn_of_wp_marks Try.func23 rfl trivial ?_ rfl
  refine wpIn_wide.2 ?_
  simp only [Try.ntmps23, List.size_toArray, List.length_cons, List.length_nil, Nat.reduceAdd, Nat.reduceSub, Array.replicate_succ, Array.replicate_zero, List.push_toArray, List.append_toArray, List.nil_append, List.cons_append]
  generalize (f.states.all txtB && decide f.states.Nodup) = tb at *
  have hmf : ∀ (fn : Fn) (first cap : Array Value) (w : World), (Instr.makeFunc fn first cap).run Try.prog w = .ok (.func fn first cap) w := fun _ _ _ _ => rfl
  obtain ⟨W0, hW0⟩ : ∃ W0, (w.alloc (.cells #[.int .i64 f.ins, .int .i64 f.outBits, .slice a2 f.states.length c2, .slice a3 f.next.length c3, .slice a4 f.outs.length c4] 31)).alloc (.cells #[.bool false] 4) = W0 := ⟨_, rfl⟩
  have hbx : Bt 31 w #[.int .i64 f.ins, .int .i64 f.outBits, .slice a2 f.states.length c2, .slice a3 f.next.length c3, .slice a4 f.outs.length c4] W0 := by rw [← hW0]; exact (Bt.refl _ _ _).alloc _
  have hR0 : W0.cell? ⟨w.heap.size + 1, 0, none⟩ = some (.bool false) := by
    rw [← hW0]
    have e : (w.alloc (.cells #[.int .i64 f.ins, .int .i64 f.outBits, .slice a2 f.states.length c2, .slice a3 f.next.length c3, .slice a4 f.outs.length c4] 31)).heap.size = w.heap.size + 1 := by go_simp
    rw [← e, World.cell?_alloc_new]; rfl
  have hRf0 : W0.frozen? ⟨w.heap.size + 1, 0, none⟩ = false := by rw [← hW0]; simp
  have A16 := hide (show ∀ V1, Below W0.heap.size W0 V1 → Below w.heap.size w V1 ∧ (V1.cell? ⟨w.heap.size, 0, none⟩ = some (.int .i64 f.ins) ∧ V1.cell? ⟨w.heap.size, 1, none⟩ = some (.int .i64 f.outBits) ∧ V1.cell? ⟨w.heap.size, 2, none⟩ = some (.slice a2 f.states.length c2) ∧ V1.cell? ⟨w.heap.size, 3, none⟩ = some (.slice a3 f.next.length c3) ∧ V1.cell? ⟨w.heap.size, 4, none⟩ = some (.slice a4 f.outs.length c4)) ∧ V1.cell? ⟨w.heap.size + 1, 0, none⟩ = some (.bool false) ∧ V1.frozen? ⟨w.heap.size + 1, 0, none⟩ = false from fun V1 hb1 => ⟨(hbx.then hb1).below, (hbx.then hb1).get5, cell_later hb1 hR0, frozen_later hb1 hR0 hRf0⟩)
  have HW0 := hide hW0
  clear hW0
  cases cb with
  | false =>
    have HE := hide (show fsmI f = false by rw [unhide HF]; rfl)
    clear TX RA L64 hbx hR0 hRf0 HFW HCB HF
    go_wp2_with fail
    rw [unhide HW0]
    refine (unhide CT _).mono ?_
    rintro e V1 ⟨rfl, hb1⟩
    obtain ⟨hbV, ⟨q0, q1, q2, q3, q4⟩, m0, m1⟩ := unhide A16 V1 hb1
    have HBV := hide hbV
    clear hb1 hbV
    go_wp2
    have hc5 := World.cell?_setCell_same (w := V1) (a := ⟨w.heap.size + 1, 0, none⟩) (v := .bool false) m0
    refine ⟨.bool false, by simp [results, Try.results23, go_sem, hc5], by rw [unhide HE], bst (unhide HBV) (Nat.le_succ _) _⟩
  | true =>
    have TX' := hide (unhide TX rfl)
    have RA' := hide (unhide RA rfl)
    have h64 := unhide L64 rfl
    clear TX RA L64 hbx hR0 hRf0 HFW HCB
    cases tb with
    | false =>
      have HE := hide (show fsmI f = false by rw [unhide HF]; rfl)
      clear RA' HF
      go_wp2_with fail
      rw [unhide HW0]
      refine (unhide CT _).mono ?_
      rintro e V1 ⟨rfl, hb1⟩
      obtain ⟨hbV, ⟨q0, q1, q2, q3, q4⟩, m0, m1⟩ := unhide A16 V1 hb1
      have HBV1 := hide hbV
      clear hb1 hbV
      go_wp2_with fail
      refine (unhide TX' _ (unhide HBV1)).mono ?_
      rintro e V2 ⟨rfl, hb2⟩
      have n0 := cell_later hb2 m0
      have n1 := frozen_later hb2 m0 m1
      have HBV := hide (btr (unhide HBV1) hb2)
      have p0 := cell_later hb2 q0
      have p1 := cell_later hb2 q1
      have p2 := cell_later hb2 q2
      have p3 := cell_later hb2 q3
      have p4 := cell_later hb2 q4
      clear hb2 q0 q1 q2 q3 q4 m0 m1
      go_wp2
      have hc5 := World.cell?_setCell_same (w := V2) (a := ⟨w.heap.size + 1, 0, none⟩) (v := .bool false) n0
      refine ⟨.bool false, by simp [results, Try.results23, go_sem, hc5], by rw [unhide HE], bst (unhide HBV) (Nat.le_succ _) _⟩
    | true =>
      have HE := hide (show fsmI f = (List.range f.states.length).all (rowAt f) by rw [unhide HF]; rfl)
      clear HF
      go_wp2_with fail
      rw [unhide HW0]
      refine (unhide CT _).mono ?_
      rintro e V1 ⟨rfl, hb1⟩
      obtain ⟨hbV, ⟨q0, q1, q2, q3, q4⟩, m0, m1⟩ := unhide A16 V1 hb1
      have HBV1 := hide hbV
      clear hb1 hbV
      go_wp2_with fail
      refine (unhide TX' _ (unhide HBV1)).mono ?_
      rintro e V2 ⟨rfl, hb2⟩
      have n0 := cell_later hb2 m0
      have n1 := frozen_later hb2 m0 m1
      have HBV := hide (btr (unhide HBV1) hb2)
      have p0 := cell_later hb2 q0
      have p1 := cell_later hb2 q1
      have p2 := cell_later hb2 q2
      have p3 := cell_later hb2 q3
      have p4 := cell_later hb2 q4
      clear hb2 q0 q1 q2 q3 q4 m0 m1
      go_wp2
      have hbV2 := unhide HBV
      have hszV := hbV2.size
      clear CT TX' A16 HW0 HBV1
      refine (wpIn_wide (n := 6)).1 ?_
      refine wpIn_rangeB (gf := 35) (fs := #[.agg #[.int .i64 f.ins, .int .i64 f.outBits, .slice a2 f.states.length c2, .slice a3 f.next.length c3, .slice a4 f.outs.length c4]]) rfl (by omega) rfl trivial (enters_of Try.func35 (by kernel_rfl) rfl) (iStates 5 f.states.length c2 a2 (.int .i64 f.ins) (.int .i64 f.outBits) (.slice a3 f.next.length c3) (.slice a4 f.outs.length c4) h64 (by omega) _)
        (fun pre V => Below w.heap.size w V ∧ (V.cell? ⟨w.heap.size, 0, none⟩ = some (.int .i64 f.ins) ∧ V.cell? ⟨w.heap.size, 1, none⟩ = some (.int .i64 f.outBits) ∧ V.cell? ⟨w.heap.size, 2, none⟩ = some (.slice a2 f.states.length c2) ∧ V.cell? ⟨w.heap.size, 3, none⟩ = some (.slice a3 f.next.length c3) ∧ V.cell? ⟨w.heap.size, 4, none⟩ = some (.slice a4 f.outs.length c4)) ∧ V.cell? ⟨w.heap.size + 1, 0, none⟩ = some (.bool false) ∧ V.frozen? ⟨w.heap.size + 1, 0, none⟩ = false ∧ ∀ i, i < pre.length → rowAt f i = true)
        (fun pre V => Below w.heap.size w V ∧ V.cell? ⟨w.heap.size + 1, 0, none⟩ = some (.bool false) ∧ fsmI f = false)
        (fun s W X h k => ⟨h.1.trans (k.under hszV h.1.size), ⟨k.cell h.2.1.1, k.cell h.2.1.2.1, k.cell h.2.1.2.2.1, k.cell h.2.1.2.2.2.1, k.cell h.2.1.2.2.2.2⟩, k.cell h.2.2.1, (k.frozen h.2.2.1).trans h.2.2.2.1, h.2.2.2.2⟩)
        (fun s W X h k => ⟨h.1.trans (k.under hszV h.1.size), k.cell h.2.1, h.2.2⟩)
        (fun s W h => trivial) ⟨hbV2, ⟨p0, p1, p2, p3, p4⟩, n0, n1, fun i hi => absurd hi (Nat.not_lt_zero _)⟩
        (fun x => { tmps := #[.agg #[.int .i64 f.ins, .int .i64 f.outBits, .slice a2 f.states.length c2, .slice a3 f.next.length c3, .slice a4 f.outs.length c4], .pointer (some ⟨w.heap.size, 0, none⟩), .pointer (some ⟨w.heap.size + 1, 0, none⟩), .int .i64 (x : Int), .agg #[.int .i64 f.ins, .int .i64 f.outBits, .slice a2 f.states.length c2, .slice a3 f.next.length c3, .slice a4 f.outs.length c4], .bool true, .bool false, .bool false, .agg #[.int .i64 f.ins, .int .i64 f.outBits, .slice a2 f.states.length c2, .slice a3 f.next.length c3, .slice a4 f.outs.length c4], .bool true, .bool false, .bool false, .agg #[.int .i64 f.ins, .int .i64 f.outBits, .slice a2 f.states.length c2, .slice a3 f.next.length c3, .slice a4 f.outs.length c4], .func (.func 35) #[.agg #[.int .i64 f.ins, .int .i64 f.outBits, .slice a2 f.states.length c2, .slice a3 f.next.length c3, .slice a4 f.outs.length c4]] #[], .int .i64 (x : Int), undef, undef, undef, undef], defers := [] }) ?assign ?body ?done ?stop
      case assign =>
        intro l x W K hK
        gi_wp2
        exact hK
      case body =>
        rintro l pre x V1 ⟨hB1, hbx, hr1, hf1, hall⟩ ⟨hx, hlt⟩
        obtain ⟨p0, p1, p2, p3, p4⟩ := id hbx
        have RX := hide (unhide RA' V1 hB1 x hlt)
        have HXP := hide hx
        have HALL := hide hall
        have HB1 := hide hB1
        have HBX := hide hbx
        clear hx hall hB1 hbx RA' n0 n1 hbV2 HBV hmf
        obtain ⟨rb, hrb⟩ : ∃ rb, rowAt f x = rb := ⟨_, rfl⟩
        rw [hrb] at RX
        gi_wp2
        refine ⟨trivial, ?_⟩
        refine (CallsIn.inRound l (callsIn_wide.2 (unhide RX))).mono ?_
        rintro e V3 ⟨rfl, hb3⟩
        have HB3 := hide hb3
        have m0 := cell_later hb3 hr1
        have m1 := frozen_later hb3 hr1 hf1
        clear hb3 p0 p1 p2 p3 p4 RX
        cases rb with
        | false =>
          have HNO := hide (show fsmI f = false by
            rw [unhide HE, List.all_eq_false]
            exact ⟨x, List.mem_range.2 hlt, by rw [hrb]; decide⟩)
          gi_wp2
          exact ⟨(keepsFrom_below (unhide HB3)).trans ((KeepsOthers.setCell _ _ _).from _), bst (btr (unhide HB1) (unhide HB3)) (Nat.le_succ _) _, World.cell?_setCell_same (w := V3) (a := ⟨w.heap.size + 1, 0, none⟩) (v := _) m0, unhide HNO⟩
        | true =>
          have HA := hide (show ∀ i, i < (pre ++ [x]).length → rowAt f i = true by
            intro i hi
            simp at hi
            by_cases e : i = pre.length
            · rw [e, ← unhide HXP, hrb]
            · exact unhide HALL i (by omega))
          gi_wp2
          exact ⟨keepsFrom_below (unhide HB3), btr (unhide HB1) (unhide HB3), ⟨cell_later (unhide HB3) (unhide HBX).1, cell_later (unhide HB3) (unhide HBX).2.1, cell_later (unhide HB3) (unhide HBX).2.2.1, cell_later (unhide HB3) (unhide HBX).2.2.2.1, cell_later (unhide HB3) (unhide HBX).2.2.2.2⟩, m0, m1, unhide HA⟩
      case done =>
        rintro D ps V1 hD hS ⟨hB1, hbx, hr1, hf1, hall⟩ hK
        have HT := hide (show fsmI f = true by
          rw [unhide HE, List.all_eq_true]
          exact fun i hi => hall i (by rw [hS]; exact List.mem_range.1 hi))
        clear RA'
        go_wp2
        have hK' := (KeepsOthers.setCell V1 ⟨w.heap.size + 1, 0, none⟩ (.bool true)).same D _ hK rfl
        refine ⟨by simp, .inl ⟨_, _, rfl, run_takeDeferred hK', ?_⟩⟩
        have hn : Near V2.heap.size (V1.setCell ⟨w.heap.size + 1, 0, none⟩ (.bool true)) ((V1.setCell ⟨w.heap.size + 1, 0, none⟩ (.bool true)).putObj D (.deferred none)) := .turn _ hD hK' rfl
        have hc5 := hn.cell (World.cell?_setCell_same (w := V1) (a := ⟨w.heap.size + 1, 0, none⟩) (v := (.bool true)) hr1)
        have hB5 := bst hB1 (show w.heap.size ≤ (⟨w.heap.size + 1, 0, none⟩ : Addr).block from Nat.le_succ _) (.bool true)
        refine ⟨.bool true, ?_, by rw [unhide HT], hB5.trans (hn.under hszV hB5.size)⟩
        simp [results, Try.results23, go_sem, hc5]
      case stop =>
        rintro D ps V1 hD hS ⟨hB1, hr1, hno⟩ hK
        clear RA'
        gi_wp2
        refine ⟨by simp, .inl ⟨_, _, rfl, run_takeDeferred hK, ?_⟩⟩
        have hn : Near V2.heap.size V1 (V1.putObj D (.deferred none)) := .turn _ hD hK rfl
        have hc5 := hn.cell hr1
        refine ⟨.bool false, ?_, by rw [hno], hB1.trans (hn.under hszV hB1.size)⟩
        simp [results, Try.results23, go_sem, hc5]
end Go.Proofs.Ytjbbjgoofenkpaa
