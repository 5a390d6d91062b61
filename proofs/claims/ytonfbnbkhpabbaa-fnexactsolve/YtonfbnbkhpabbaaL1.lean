/- Answers: held against each other, marked, held. -/
import Derived.Test.YtonfbnbkhpabbaaT12
import Derived.Test.YtonfbnbkhpabbaaDE
import Derived.Test.YtonfbnbkhpabbaaRT14
namespace Go.Proofs.Ytonfbnbkhpabbaa
open Go Go.RowKit Gs
set_option linter.unusedVariables false
set_option linter.unusedSimpArgs false
set_option maxRecDepth 100000
theorem mark0 (a : Option Addr) (c : Nat) (k : Int) (w : World) : Calls Try.prog 23 #[.slice a 0 c, .int .i64 k] w fun e w' => e = .returned (.int .i64 k) ∧ w' = w := by
  go_enter Try.func23, Try.ntmps23
  go_wp2
  refine wp_loop_rounds 1 ?_
  rw [rounds_succ]
  go_wp2
  exact bodyPost_ret (v := .int .i64 k) (by simp [results, Try.results23, go_sem]) rfl ⟨rfl, rfl⟩
theorem held0 (a : Option Addr) (c : Nat) (k : Int) (w : World) : Calls Try.prog 24 #[.slice a 0 c, .int .i64 k] w fun e w' => e = .returned (.int .i64 k) ∧ w' = w := by
  go_enter Try.func24, Try.ntmps24
  go_wp2
  refine wp_loop_rounds 1 ?_
  rw [rounds_succ]
  go_wp2
  exact bodyPost_ret (v := .int .i64 k) (by simp [results, Try.results24, go_sem]) rfl ⟨rfl, rfl⟩
theorem markS0 (a : Option Addr) (c : Nat) (k : Int) (w : World) : Calls Try.prog 10 #[.slice a 0 c, .int .i64 k] w fun e w' => e = .returned (.int .i64 k) ∧ w' = w := by
  go_enter Try.func10, Try.ntmps10
  go_wp2
  refine wp_loop_rounds 1 ?_
  rw [rounds_succ]
  go_wp2
  exact bodyPost_ret (v := .int .i64 k) (by simp [results, Try.results10, go_sem]) rfl ⟨rfl, rfl⟩
theorem heldS0 (a : Option Addr) (c : Nat) (k : Int) (w : World) : Calls Try.prog 25 #[.slice a 0 c, .int .i64 k] w fun e w' => e = .returned (.int .i64 k) ∧ w' = w := by
  go_enter Try.func25, Try.ntmps25
  go_wp2
  refine wp_loop_rounds 1 ?_
  rw [rounds_succ]
  go_wp2
  exact bodyPost_ret (v := .int .i64 k) (by simp [results, Try.results25, go_sem]) rfl ⟨rfl, rfl⟩
/-- One element of a row of one's own is another. -/
theorem IR.set {B : Nat} {W : World} {g l c : Nat} {xs : List Int} (h : IR B W (.slice (some ⟨g, 0, none⟩) l c) xs) (i : Nat) (z : Int) (hi : i < xs.length) : IR B (W.setCell ⟨g, i, none⟩ (.int .i64 z)) (.slice (some ⟨g, 0, none⟩) l c) (xs.set i z) := by
  obtain ⟨h1, ⟨h2, _⟩ | ⟨g', cap, cur, hv, hb, hg, hlc, hcm, hcs, htk⟩⟩ := h
  · cases h2
  · injection hv with e1 e2 e3
    injection e1 with e4
    injection e4 with e5 _
    subst e5 e3
    refine ⟨by unfold iL; simp, .inr ⟨g, c, cur.setIfInBounds i (.int .i64 z), by rw [e2]; simp, hb, heap_set hg, by simpa using hlc, hcm, by simpa using hcs, ?_⟩⟩
    rw [Array.toList_setIfInBounds, List.length_set, List.take_set, htk]
    unfold iL
    rw [List.map_set]
theorem IR.frz {B : Nat} {W : World} {g l c : Nat} {xs : List Int} (h : IR B W (.slice (some ⟨g, 0, none⟩) l c) xs) (i : Nat) : W.frozen? ⟨g, i, none⟩ = false := by
  obtain ⟨o, ho⟩ := own_ty h (j := g) rfl
  simp [World.frozen?, ho]
theorem IR.kt {B : Nat} {W U : World} {g l c : Nat} {xs : List Int} (h : IR B U (.slice (some ⟨g, 0, none⟩) l c) xs) (hk : KT W U) (i : Nat) (v : Value) : KT W (U.setCell ⟨g, i, none⟩ v) := fun q o t hne hc => by
  obtain ⟨o', ho⟩ := own_ty h (j := g) rfl
  exact (Below.heap_setCell U ⟨g, i, none⟩ v q (ty_ne (hk q o t hne hc) ho hne)).trans (hk q o t hne hc)
set_option maxHeartbeats 3200000 in
theorem markIR {B : Nat} (x : List Int) (v : Value) (k : Nat) (W : World) (hl : x.length ≤ 4001) (hk : k ≤ 40000000) (h : IR B W v x) :
    Calls Try.prog 23 #[v, .int .i64 (k : Int)] W fun e V => e = .returned (.int .i64 ((k + x.length : Nat) : Int)) ∧ IR B V v (mkI k x.length) ∧ Below B W V ∧ KT W V := by
  obtain ⟨a, c, rfl⟩ := h.shape
  rcases List.eq_nil_or_concat x with rfl | ⟨x', y', hx'⟩
  · refine (mark0 a c k W).mono ?_
    rintro e w' ⟨rfl, rfl⟩
    exact ⟨rfl, h, Below.refl _ _, KT.refl _⟩
  · have hpos : 0 < x.length := by rw [hx']; simp
    obtain ⟨g, hg⟩ : ∃ g, a = some ⟨g, 0, none⟩ := by
      rcases id h.2 with ⟨hv, hn⟩ | ⟨g, cap, cur, hv, _⟩
      · omega
      · injection hv with e1 _ _; exact ⟨g, e1⟩
    subst hg
    have hBg := (h.lt g rfl).1
    obtain ⟨n, hn⟩ : ∃ n, n = x.length := ⟨_, rfl⟩
    have H := hide h
    have HN := hide hn
    clear h hx'
    rw [← hn] at hl hpos ⊢
    clear hn
    go_enter Try.func23, Try.ntmps23
    go_wp2
    go_loopw [1, 5] (fun z i wr => ∃ j : Nat, j ≤ n ∧ i = .int .i64 (j : Int) ∧ z = .int .i64 ((k + j : Nat) : Int) ∧ IR B wr (.slice (some ⟨g, 0, none⟩) n c) (mkI k j ++ x.drop j) ∧ Below B W wr ∧ KT W wr) (fun z i wr => n - (intOf i).toNat)
    case atStart => exact ⟨0, Nat.zero_le _, rfl, by simp, by simpa [mkI, unhide HN] using unhide H, Below.refl _ _, KT.refl _⟩
    case round =>
      obtain ⟨j, hj, rfl, rfl, hir, hbl, hkt⟩ := hrel
      by_cases hjl : j < n
      · have hlen : (mkI k j ++ x.drop j).length = n := by rw [List.length_append, mkI_len, List.length_drop, ← unhide HN]; omega
        obtain ⟨z, hz⟩ : ∃ z, (mkI k j ++ x.drop j)[j]? = some z := ⟨_, List.getElem?_eq_getElem (by omega)⟩
        obtain ⟨yb, e, hc⟩ := hir.cells j z hz
        cases e
        have hf := hir.frz j
        have hset : (mkI k j ++ x.drop j).set j ((k + j : Nat) : Int) = mkI k (j + 1) ++ x.drop (j + 1) := by
          have hx : x[j]? = some x[j] := List.getElem?_eq_getElem (by have := unhide HN; omega)
          rw [List.set_append_right _ _ (by rw [mkI_len]; omega), mkI_len, Nat.sub_self, List.drop_eq_getElem_cons (by have := unhide HN; omega), mkI_snoc, List.append_assoc]
          rfl
        have HNX := hide (show IR B (wr.setCell ⟨g, j, none⟩ (.int .i64 ((k + j : Nat) : Int))) (.slice (some ⟨g, 0, none⟩) n c) (mkI k (j + 1) ++ x.drop (j + 1)) by rw [← hset]; exact hir.set j _ (by omega))
        have HNK := hide (hir.kt hkt j (.int .i64 ((k + j : Nat) : Int)))
        have HNB := hide (hbl.setCell (p := ⟨g, j, none⟩) hBg (.int .i64 ((k + j : Nat) : Int)))
        have j1 : (j : Int) < (n : Int) := by omega
        have j2 : (0 : Int) ≤ (j : Int) := by omega
        obtain ⟨m, hmm⟩ : ∃ m : Nat, m = k + j := ⟨_, rfl⟩
        have hmb : m ≤ 50000000 := by omega
        have HM2 : Hid (k + (j + 1) = m + 1) := hide (by omega)
        rw [← hmm] at HNX HNB HNK ⊢
        clear hir hbl hkt hset hz hlen hmm
        go_wp2
        exact ⟨⟨j + 1, by omega, by go_num, by rw [unhide HM2]; go_num, unhide HNX, unhide HNB, unhide HNK⟩, by simp [intOf]; omega⟩
      · obtain rfl : j = n := by omega
        rw [List.drop_of_length_le (by have := unhide HN; omega), List.append_nil] at hir
        have j1 : ¬ (j : Int) < (j : Int) := by omega
        have HE := hide hir
        have HBE := hide hbl
        have HKE := hide hkt
        clear hir hbl hkt
        go_wp2
        exact bodyPost_ret (v := .int .i64 ((k + j : Nat) : Int)) (by simp [results, Try.results23, go_sem]) rfl ⟨rfl, unhide HE, unhide HBE, unhide HKE⟩
set_option maxHeartbeats 3200000 in
theorem heldIR {B : Nat} (v : Value) (k n : Nat) (W : World) (hl : n ≤ 4001) (hk : k ≤ 40000000) (h : IR B W v (mkI k n)) :
    Calls Try.prog 24 #[v, .int .i64 (k : Int)] W fun e V => e = .returned (.int .i64 ((k + n : Nat) : Int)) ∧ V = W := by
  have hln := mkI_len n k
  obtain ⟨a, c, rfl⟩ := h.shape
  have HC := hide h.cells
  rw [hln]
  clear h hln
  go_enter Try.func24, Try.ntmps24
  go_wp2
  go_loop [1, 5] (fun z i => ∃ j : Nat, j ≤ n ∧ i = .int .i64 (j : Int) ∧ z = .int .i64 ((k + j : Nat) : Int)) (fun z i => n - (intOf i).toNat)
  case atStart => exact ⟨0, Nat.zero_le _, rfl, by simp⟩
  case round =>
    obtain ⟨j, hj, rfl, rfl⟩ := hrel
    by_cases hjl : j < n
    · obtain ⟨yb, rfl, hc⟩ := unhide HC j _ (mkI_get n k j hjl)
      have j1 : (j : Int) < (n : Int) := by omega
      have j2 : (0 : Int) ≤ (j : Int) := by omega
      obtain ⟨m, hmm⟩ : ∃ m : Nat, m = k + j := ⟨_, rfl⟩
      have hmb : m ≤ 50000000 := by omega
      have HM2 : Hid (k + (j + 1) = m + 1) := hide (by omega)
      rw [← hmm] at hc ⊢
      clear hmm HC
      go_wp2
      go_round
      case rel => exact ⟨j + 1, by omega, by go_num, by rw [unhide HM2]; go_num⟩
      case measure => simp [intOf]; omega
    · obtain rfl : j = n := by omega
      have j1 : ¬ (j : Int) < (j : Int) := by omega
      clear HC
      go_wp2
      exact bodyPost_ret (v := .int .i64 ((k + j : Nat) : Int)) (by simp [results, Try.results24, go_sem]) rfl ⟨rfl, rfl⟩
end Go.Proofs.Ytonfbnbkhpabbaa
namespace Go.Proofs.Ytonfbnbkhpabbaa
open Go Go.RowKit Gs
set_option linter.unusedVariables false
set_option linter.unusedSimpArgs false
set_option maxRecDepth 100000
theorem KT.trans {a b c : World} (h : KT a b) (k : KT b c) : KT a c := fun g o t hne hc => k g o t hne (h g o t hne hc)
def ansV (kd : Int) (mv tv : Value) (wk : Int) : Value := .agg #[.int .i64 kd, mv, tv, .int .i64 wk]
set_option maxHeartbeats 6400000 in
theorem eqSat (kd wk : Int) (mo : List Int) (T : List (List Int)) (m1 m2 t1 t2 : Value) (w : World) (h1 : RS 1 RInt w 0 mo m1) (h2 : RS 1 RInt w 0 mo m2) (h3 : RS 1 RIntS w 0 T t1) (h4 : RS 1 RIntS w 0 T t2) :
    Calls Try.prog 8 #[.agg #[.int .i64 kd, m1, t1, .int .i64 wk], .agg #[.int .i64 kd, m2, t2, .int .i64 wk]] w fun e w' => e = .returned (.bool true) ∧ Below w.heap.size w w' := by
  obtain ⟨a1, c1, rfl⟩ := h1.slice
  obtain ⟨a2, c2, rfl⟩ := h2.slice
  obtain ⟨a3, c3, rfl⟩ := h3.slice
  obtain ⟨a4, c4, rfl⟩ := h4.slice
  obtain ⟨V, hV⟩ : ∃ V, V = (w.alloc (.cells #[.int .i64 kd, .slice a1 mo.length c1, .slice a3 T.length c3, .int .i64 wk] 26)).alloc (.cells #[.int .i64 kd, .slice a2 mo.length c2, .slice a4 T.length c4, .int .i64 wk] 26) := ⟨_, rfl⟩
  have hb : Below w.heap.size w V := by rw [hV]; exact bal (bal (brf w) _) _
  have x1 : V.heap[w.heap.size]? = some (.cells #[.int .i64 kd, .slice a1 mo.length c1, .slice a3 T.length c3, .int .i64 wk] 26) := by rw [hV]; exact heap_al (heap_new _ _)
  have x2 : V.heap[w.heap.size + 1]? = some (.cells #[.int .i64 kd, .slice a2 mo.length c2, .slice a4 T.length c4, .int .i64 wk] 26) := by
    rw [hV]
    have := heap_new (w.alloc (.cells #[.int .i64 kd, .slice a1 mo.length c1, .slice a3 T.length c3, .int .i64 wk] 26)) (.cells #[.int .i64 kd, .slice a2 mo.length c2, .slice a4 T.length c4, .int .i64 wk] 26)
    rw [World.size_alloc] at this; exact this
  have HBC : Hid (∀ U, Below V.heap.size V U → (∀ i v, (#[Value.int .i64 kd, .slice a1 mo.length c1, .slice a3 T.length c3, .int .i64 wk])[i]? = some v → U.cell? ⟨w.heap.size, i, none⟩ = some v) ∧ (∀ i v, (#[Value.int .i64 kd, .slice a2 mo.length c2, .slice a4 T.length c4, .int .i64 wk])[i]? = some v → U.cell? ⟨w.heap.size + 1, i, none⟩ = some v)) := hide (fun U hU => ⟨fun i v hi => resCell ((hU.block _ (heap_lt x1)).trans x1) i hi, fun i v hi => resCell ((hU.block _ (heap_lt x2)).trans x2) i hi⟩)
  have HE1 : Hid (Calls Try.prog 22 #[.slice a1 mo.length c1, .slice a2 mo.length c2] V fun e w' => e = .returned (.bool true) ∧ Below V.heap.size V w') := hide (eqIntS_of mo _ _ V (h1.later RInt.keeps hb) (h2.later RInt.keeps hb))
  have HE2 : Hid (∀ U, Below V.heap.size V U → Calls Try.prog 9 #[.slice a3 T.length c3, .slice a4 T.length c4] U fun e w' => e = .returned (.bool true) ∧ Below U.heap.size U w') := hide (fun U hU => eqIntSS_of T _ _ U ((h3.later RIntS.keeps hb).later RIntS.keeps hU) ((h4.later RIntS.keeps hb).later RIntS.keeps hU))
  have HBB := hide hb
  obtain ⟨q1, q2⟩ := unhide HBC V (brf V)
  have y10 := q1 0 _ rfl
  have y11 := q1 1 _ rfl
  have y20 := q2 0 _ rfl
  have y21 := q2 1 _ rfl
  have HV := hide hV
  clear h1 h2 h3 h4 hb x1 x2 q1 q2
  rw [hV] at y10 y11 y20 y21 HE1
  clear hV
  go_enter Try.func8, Try.ntmps8
  go_wp2_with fail
  refine (unhide HE1).mono ?_
  rintro e W1 ⟨rfl, hb1⟩
  rw [← unhide HV] at hb1
  obtain ⟨q1, q2⟩ := unhide HBC W1 hb1
  have y12 := q1 2 _ rfl
  have y22 := q2 2 _ rfl
  have HB1 := hide hb1
  clear hb1 q1 q2 y10 y11 y20 y21 HE1
  go_wp2_with fail
  refine (unhide HE2 W1 (unhide HB1)).mono ?_
  rintro e W2 ⟨rfl, hb2⟩
  have hb12 := btr (unhide HB1) hb2
  obtain ⟨q1, q2⟩ := unhide HBC W2 hb12
  have y13 := q1 3 _ rfl
  have y23 := q2 3 _ rfl
  have HBE := hide (btr (unhide HBB) hb12)
  clear hb2 hb12 q1 q2 y12 y22 HE2
  go_wp2
  exact bodyPost_ret (v := .bool true) (by simp [results, Try.results8, go_sem]) rfl ⟨rfl, unhide HBE⟩
/-- An answer in memory of its own. -/
def HA (B : Nat) (W : World) (mv tv : Value) (mo : List Int) (T : List (List Int)) : Prop := (mo = [] ∧ (∃ a c, mv = .slice a 0 c) ∧ (∃ E, CP B E W tv T) ∧ T.length ≤ 4001 ∧ Small T) ∨ (T = [] ∧ (∃ a c, tv = .slice a 0 c) ∧ IR B W mv mo ∧ mo.length ≤ 2048)
theorem HA.keep {B : Nat} {W W' : World} {mv tv : Value} {mo : List Int} {T : List (List Int)} (h : HA B W mv tv mo T) (hk : ∀ g, B ≤ g → g < W.heap.size → W'.heap[g]? = W.heap[g]?) (hz : W.heap.size ≤ W'.heap.size) : HA B W' mv tv mo T := by
  rcases h with ⟨h1, h2, ⟨E, h3, vs, h4, h5⟩, h6, h7⟩ | ⟨h1, h2, h3, h4⟩
  · exact .inl ⟨h1, h2, ⟨E, Nat.le_trans h3 hz, vs, ownsRow_keep h4 (fun g o hg hc => (hk g (World.ownsRow.lt h4 g hg).1 (heap_lt hc)).trans hc), RI.keep T vs (fun b o hb _ hc => (hk b hb (heap_lt hc)).trans hc) h5⟩, h6, h7⟩
  · exact .inr ⟨h1, h2, ownsRow_keep h3 (fun g o hg hc => (hk g (h3.lt g hg).1 (heap_lt hc)).trans hc), h4⟩
theorem HA.later {B : Nat} {W W' : World} {mv tv : Value} {mo : List Int} {T : List (List Int)} (h : HA B W mv tv mo T) (hb : Below W.heap.size W W') : HA B W' mv tv mo T := h.keep (fun g _ hg => hb.block g hg) hb.size
theorem HA.read {B : Nat} {W : World} {mv tv : Value} {mo : List Int} {T : List (List Int)} (h : HA B W mv tv mo T) : RS 1 RInt W 0 mo mv ∧ RS 1 RIntS W 0 T tv := by
  rcases h with ⟨rfl, ⟨a, c, rfl⟩, ⟨E, h3⟩, h6, h7⟩ | ⟨rfl, ⟨a, c, rfl⟩, h3, h4⟩
  · exact ⟨RS.nil _ _ _ _ _ _, RS.low RIntS.lowers (Nat.zero_le _) (h3.read (by unfold maxLen; omega) h7)⟩
  · exact ⟨h3.read, RS.nil _ _ _ _ _ _⟩
def totA (mo : List Int) (T : List (List Int)) : Nat := 1 + mo.length + tot T
theorem HA.shape {B : Nat} {W : World} {mv tv : Value} {mo : List Int} {T : List (List Int)} (h : HA B W mv tv mo T) : (∃ a c, mv = .slice a mo.length c) ∧ ∃ a c, tv = .slice a T.length c := ⟨h.read.1.slice, h.read.2.slice⟩
set_option maxHeartbeats 6400000 in
theorem markSat {B : Nat} (kd wk : Int) (mo : List Int) (T : List (List Int)) (mv tv : Value) (W : World) (hB : B ≤ W.heap.size) (h : HA B W mv tv mo T) :
    Calls Try.prog 11 #[.agg #[.int .i64 kd, mv, tv, .int .i64 wk], .int .i64 1] W fun e V => e = .returned (.int .i64 ((totA mo T : Nat) : Int)) ∧ HA B V mv tv (mkI 1 mo.length) (mrows 1 T) ∧ Below B W V ∧ KT W V := by
  obtain ⟨⟨ma, mc, rfl⟩, ta, tc, rfl⟩ := h.shape
  obtain ⟨V, hV⟩ : ∃ V, V = W.alloc (.cells #[.int .i64 kd, .slice ma mo.length mc, .slice ta T.length tc, .int .i64 wk] 26) := ⟨_, rfl⟩
  have hb : Below W.heap.size W V := by rw [hV]; exact bal (brf W) _
  have hx : V.heap[W.heap.size]? = some (.cells #[.int .i64 kd, .slice ma mo.length mc, .slice ta T.length tc, .int .i64 wk] 26) := by rw [hV]; exact heap_new _ _
  have hh := h.later hb
  have y1 := resCell hx 1 rfl
  have HY2 := hide (resCell hx 2 rfl)
  have HV := hide hV
  have HBB := hide (hb.mono hB)
  have HKB : Hid (KT W V) := hide (fun g o t _ hc => (hb.block g (heap_lt hc)).trans hc)
  rcases hh with ⟨rfl, h2, ⟨E, h3⟩, h6, h7⟩ | ⟨rfl, h2, h3, h4⟩
  · have HM := hide (markRows T _ V (by omega) h7 h3)
    have HSM : Hid (Small (mrows 1 T) ∧ (mrows 1 T).length = T.length) := hide ⟨(fun x hx => by
      obtain ⟨i, hi⟩ := List.mem_iff_getElem?.1 hx
      have hil := (List.getElem?_eq_some_iff.1 hi).1
      rw [mrows_len] at hil
      have hg := mrows_get T i 1 _ (List.getElem?_eq_getElem hil)
      rw [hi] at hg
      injection hg with hg
      rw [hg, mkI_len]
      exact h7 _ (List.getElem_mem hil)), mrows_len T 1⟩
    have HM0 := hide (mark0 ma mc 1 V)
    clear h hb hx h3 h2 h7
    simp only [List.length_nil] at *
    rw [hV] at y1 HM0
    clear hV
    rw [show totA [] T = 1 + tot T by unfold totA; simp]
    go_enter Try.func11, Try.ntmps11
    go_wp2_with fail
    refine (unhide HM0).mono ?_
    rintro e W1 ⟨rfl, hw⟩
    rw [← unhide HV] at hw
    have hw' := hw.symm
    subst hw'
    have y2 := unhide HY2
    go_wp2_with fail
    refine (unhide HM).mono ?_
    rintro e W2 ⟨rfl, hcp, hb2, hkt⟩
    have HQ : Hid (HA B W2 (.slice ma 0 mc) (.slice ta T.length tc) (mkI 1 0) (mrows 1 T) ∧ Below B W W2 ∧ KT W W2) := hide ⟨.inl ⟨rfl, ⟨_, _, rfl⟩, ⟨E, hcp⟩, by rw [(unhide HSM).2]; exact h6, (unhide HSM).1⟩, (unhide HBB).trans hb2, (unhide HKB).trans hkt⟩
    clear hcp hb2 hkt HM HM0
    go_wp2
    exact bodyPost_ret (v := .int .i64 ((1 + tot T : Nat) : Int)) (by simp [results, Try.results11, go_sem]) rfl ⟨rfl, (unhide HQ).1, (unhide HQ).2.1, (unhide HQ).2.2⟩
  · have HM := hide (markIR mo _ 1 V (by omega) (by omega) h3)
    have HM0 := hide (fun (U : World) => markS0 ta tc ((1 + mo.length : Nat) : Int) U)
    have HX := hide hx
    clear h hb hx h3 h2 HY2
    simp only [List.length_nil] at *
    rw [hV] at y1 HM
    clear hV
    rw [show totA mo [] = 1 + mo.length by unfold totA tot; simp]
    go_enter Try.func11, Try.ntmps11
    go_wp2_with fail
    refine (unhide HM).mono ?_
    rintro e W1 ⟨rfl, hir, hb1, hkt⟩
    rw [← unhide HV] at hb1 hkt
    have y2 := resCell (hkt _ _ _ (by decide) (unhide HX)) 2 rfl
    have HQ : Hid (HA B W1 (.slice ma mo.length mc) (.slice ta 0 tc) (mkI 1 mo.length) (mrows 1 []) ∧ Below B W W1 ∧ KT W W1) := hide ⟨.inr ⟨rfl, ⟨_, _, rfl⟩, hir, by rw [mkI_len]; exact h4⟩, (unhide HBB).trans hb1, (unhide HKB).trans hkt⟩
    clear hir hb1 hkt HM
    go_wp2_with fail
    refine (unhide HM0 _).mono ?_
    rintro e W2 ⟨rfl, hw⟩
    have hw' := hw.symm
    subst hw'
    go_wp2
    exact bodyPost_ret (v := .int .i64 ((1 + mo.length : Nat) : Int)) (by simp [results, Try.results11, go_sem]) rfl ⟨rfl, (unhide HQ).1, (unhide HQ).2.1, (unhide HQ).2.2⟩
set_option maxHeartbeats 6400000 in
theorem heldSat {B : Nat} (kd wk : Int) (mo : List Int) (T : List (List Int)) (mv tv : Value) (W : World) (h : HA B W mv tv (mkI 1 mo.length) (mrows 1 T)) :
    Calls Try.prog 12 #[.agg #[.int .i64 kd, mv, tv, .int .i64 wk], .int .i64 1] W fun e V => e = .returned (.int .i64 ((totA mo T : Nat) : Int)) ∧ Below W.heap.size W V := by
  obtain ⟨⟨ma, mc, rfl⟩, ta, tc, rfl⟩ := h.shape
  rw [mkI_len, mrows_len] at *
  obtain ⟨V, hV⟩ : ∃ V, V = W.alloc (.cells #[.int .i64 kd, .slice ma mo.length mc, .slice ta T.length tc, .int .i64 wk] 26) := ⟨_, rfl⟩
  have hb : Below W.heap.size W V := by rw [hV]; exact bal (brf W) _
  have hx : V.heap[W.heap.size]? = some (.cells #[.int .i64 kd, .slice ma mo.length mc, .slice ta T.length tc, .int .i64 wk] 26) := by rw [hV]; exact heap_new _ _
  have hh := h.later hb
  have y1 := resCell hx 1 rfl
  have HY2 := hide (resCell hx 2 rfl)
  have HV := hide hV
  have HBB := hide hb
  rcases hh with ⟨e0, _, ⟨E, hcp⟩, g1, g3⟩ | ⟨e0, _, hir, g1⟩
  · have hmo : mo = [] := List.length_eq_zero_iff.1 (by rw [← mkI_len mo.length 1, e0]; rfl)
    subst hmo
    rw [mrows_len] at g1
    have g2 : Small T := fun x hx => by
      obtain ⟨i, hi⟩ := List.mem_iff_getElem?.1 hx
      have hg := mrows_get T i 1 x hi
      have := g3 _ (List.mem_of_getElem? hg)
      rw [mkI_len] at this; exact this
    have e1 : totA [] T = 1 + tot T := by unfold totA; simp
    rw [e1]
    have HM := hide (heldRows T _ V (by omega) g2 hcp)
    have HM0 := hide (held0 ma mc 1 V)
    have htt := tot_le T g2
    clear h hb hx hcp g3 e0 e1
    simp only [List.length_nil] at *
    rw [hV] at y1 HM0
    clear hV
    go_enter Try.func12, Try.ntmps12
    go_wp2_with fail
    refine (unhide HM0).mono ?_
    rintro e W1 ⟨rfl, hw⟩
    rw [← unhide HV] at hw
    have hw' := hw.symm
    subst hw'
    have y2 := unhide HY2
    go_wp2_with fail
    refine (unhide HM).mono ?_
    rintro e W2 ⟨rfl, hb2⟩
    have HQ := hide (btr (unhide HBB) hb2)
    obtain ⟨q, hq⟩ : ∃ q : Nat, q = 1 + tot T := ⟨_, rfl⟩
    rw [← hq]
    have q0 : decide ((q : Int) < 0) = false := decide_eq_false (by omega)
    have HQQ := hide hq
    clear hb2 HM HM0 hq
    go_wp2
    exact bodyPost_ret (v := .int .i64 (q : Int)) (by simp [results, Try.results12, go_sem]) rfl ⟨by rw [unhide HQQ], unhide HQ⟩
  · have hT : T = [] := List.length_eq_zero_iff.1 (by rw [← mrows_len T 1, e0]; rfl)
    subst hT
    rw [mkI_len] at g1
    have e1 : totA mo [] = 1 + mo.length := by unfold totA tot; simp
    rw [e1]
    have HM := hide (heldIR _ 1 mo.length V (by omega) (by omega) hir)
    have HM0 := hide (fun (U : World) => heldS0 ta tc ((1 + mo.length : Nat) : Int) U)
    clear h hb hx hir e0 e1
    simp only [List.length_nil] at *
    rw [hV] at y1 HM
    clear hV
    go_enter Try.func12, Try.ntmps12
    go_wp2_with fail
    refine (unhide HM).mono ?_
    rintro e W1 ⟨rfl, hw⟩
    rw [← unhide HV] at hw
    have hw' := hw.symm
    subst hw'
    have y2 := unhide HY2
    obtain ⟨q, hq⟩ : ∃ q : Nat, q = 1 + mo.length := ⟨_, rfl⟩
    have q0 : decide ((q : Int) < 0) = false := decide_eq_false (by omega)
    rw [← hq] at HM0 ⊢
    have HQQ := hide hq
    clear hq HM
    go_wp2_with fail
    refine (unhide HM0 _).mono ?_
    rintro e W2 ⟨rfl, hw⟩
    have hw' := hw.symm
    subst hw'
    go_wp2
    exact bodyPost_ret (v := .int .i64 (q : Int)) (by simp [results, Try.results12, go_sem]) rfl ⟨by rw [unhide HQQ], unhide HBB⟩
end Go.Proofs.Ytonfbnbkhpabbaa
namespace Go.Proofs.Ytonfbnbkhpabbaa
open Go Go.RowKit Gs
set_option linter.unusedVariables false
set_option linter.unusedSimpArgs false
set_option maxRecDepth 100000
/-- Numbers from B up to E may be others; all else is as it was in V (of what was there) and in U. -/
structure MJ (B E : Nat) (V U W : World) : Prop where
  int : ∀ (b o : Nat) (z : Int), V.cell? ⟨b, o, none⟩ = some (.int .i64 z) → ∃ z', W.cell? ⟨b, o, none⟩ = some (.int .i64 z')
  oth : ∀ (b o : Nat) (v : Value), V.cell? ⟨b, o, none⟩ = some v → (∀ z, v ≠ .int .i64 z) → W.cell? ⟨b, o, none⟩ = some v
  frz : ∀ (b o : Nat) (v : Value), B ≤ b → V.cell? ⟨b, o, none⟩ = some v → W.frozen? ⟨b, o, none⟩ = false
  blk : ∀ g, g < B ∨ E ≤ g → W.heap[g]? = U.heap[g]?
  sz : W.heap.size = U.heap.size
  bel : Below B U W
theorem MJ.set {B E : Nat} {V U W : World} (h : MJ B E V U W) {b o : Nat} {z : Int} (hc : V.cell? ⟨b, o, none⟩ = some (.int .i64 z)) (hB : B ≤ b) (hE : b < E) (x : Int) : MJ B E V U (W.setCell ⟨b, o, none⟩ (.int .i64 x)) := by
  obtain ⟨z0, hz0⟩ := h.int b o z hc
  have same : (W.setCell ⟨b, o, none⟩ (.int .i64 x)).cell? ⟨b, o, none⟩ = some (.int .i64 x) := World.cell?_setCell_same (w := W) (a := ⟨b, o, none⟩) (v := .int .i64 x) hz0
  have other : ∀ b' o', ¬ (b' = b ∧ o' = o) → (W.setCell ⟨b, o, none⟩ (.int .i64 x)).cell? ⟨b', o', none⟩ = W.cell? ⟨b', o', none⟩ := fun b' o' hne => World.cell?_setCell_other (w := W) (a := ⟨b, o, none⟩) (b := ⟨b', o', none⟩) (v := .int .i64 x) (ne_addr (by
    by_cases e : b' = b
    · exact .inr (fun e2 => hne ⟨e, e2⟩)
    · exact .inl e))
  refine ⟨fun b' o' z' hc' => ?_, fun b' o' v hv hne => ?_, fun b' o' v hB' hv => ?_, fun g hg => ?_, by simpa using h.sz, h.bel.setCell (p := ⟨b, o, none⟩) hB _⟩
  · by_cases e : b' = b ∧ o' = o
    · obtain ⟨rfl, rfl⟩ := e; exact ⟨x, same⟩
    · rw [other b' o' e]; exact h.int b' o' z' hc'
  · by_cases e : b' = b ∧ o' = o
    · obtain ⟨rfl, rfl⟩ := e
      rw [hc] at hv; injection hv with hv; exact absurd hv.symm (hne z)
    · rw [other b' o' e]; exact h.oth b' o' v hv hne
  · simpa using h.frz b' o' v hB' hv
  · rw [Below.heap_setCell W ⟨b, o, none⟩ _ g (by show g ≠ b; omega)]; exact h.blk g hg
set_option maxHeartbeats 3200000 in
theorem mkS {B E : Nat} {V U W : World} (x : List Int) (v : Value) (k : Nat) (hE : E = V.heap.size) (hr : RS 1 RInt V B x v) (hl : x.length ≤ 1048576) (hk : k ≤ 2000000) (h : MJ B E V U W) : Calls Try.prog 23 #[v, .int .i64 (k : Int)] W fun e W' => e = .returned (.int .i64 ((k + x.length : Nat) : Int)) ∧ MJ B E V U W' := by
  rcases hr.open with ⟨rfl, a, c, rfl⟩ | ⟨b, o, c, rfl, hc, hn, hB, hcs⟩
  · refine (mark0 a c k W).mono ?_
    rintro e w' ⟨rfl, rfl⟩
    exact ⟨rfl, h⟩
  · have HC : Hid (∀ (j : Nat) z, x[j]? = some z → V.cell? ⟨b, o + j, none⟩ = some (.int .i64 z)) := hide (fun j z hz => by
      obtain ⟨u, hul, hat, hus⟩ := hcs j z hz
      subst hus
      have := hat.get (j := 0) rfl
      simpa using this)
    have H := hide h
    have HEE := hide hE
    clear hE
    obtain ⟨n, hnn⟩ : ∃ n, n = x.length := ⟨_, rfl⟩
    have HN := hide hnn
    rw [← hnn] at hl ⊢
    clear hcs hr hc hn h hnn
    go_enter Try.func23, Try.ntmps23
    go_wp2
    go_loopw [1, 5] (fun z i wr => ∃ j : Nat, j ≤ n ∧ i = .int .i64 (j : Int) ∧ z = .int .i64 ((k + j : Nat) : Int) ∧ MJ B E V U wr) (fun z i wr => n - (intOf i).toNat)
    case atStart => exact ⟨0, Nat.zero_le _, rfl, by simp, unhide H⟩
    case round =>
      obtain ⟨j, hj, rfl, rfl, hm⟩ := hrel
      clear H
      by_cases hjl : j < n
      · have hz : x[j]? = some x[j] := List.getElem?_eq_getElem (by have := unhide HN; omega)
        generalize x[j]'(by have := unhide HN; omega) = z at hz
        have hv := unhide HC j z hz
        obtain ⟨z0, hz0⟩ := hm.int _ _ _ hv
        have hf := hm.frz _ _ _ hB hv
        have hbl : b < E := by rw [unhide HEE]; exact World.block_lt_of_cell? _ _ hv
        have HNX := hide (hm.set hv hB hbl ((k + j : Nat) : Int))
        have j1 : (j : Int) < (n : Int) := by omega
        have j2 : (0 : Int) ≤ (j : Int) := by omega
        obtain ⟨m, hmm⟩ : ∃ m : Nat, m = k + j := ⟨_, rfl⟩
        have hmb : m ≤ 50000000 := by omega
        have HM2 : Hid (k + (j + 1) = m + 1) := hide (by omega)
        rw [← hmm] at HNX ⊢
        clear hm hz hv hmm HC hbl
        go_wp2
        exact ⟨⟨j + 1, by omega, by go_num, by rw [unhide HM2]; go_num, unhide HNX⟩, by simp [intOf]; omega⟩
      · obtain rfl : j = n := by omega
        have j1 : ¬ (j : Int) < (j : Int) := by omega
        have HE := hide hm
        clear hm HC
        go_wp2
        exact bodyPost_ret (v := .int .i64 ((k + j : Nat) : Int)) (by simp [results, Try.results23, go_sem]) rfl ⟨rfl, unhide HE⟩
theorem heads' {w : World} {B : Nat} {xs : List (List Int)} {a : Option Addr} {l c : Nat} (hr : RS 1 RIntS w B xs (.slice a l c)) : ∀ (k : Nat) y, xs[k]? = some y → ∃ sb so ya yc, a = some ⟨sb, so, none⟩ ∧ w.cell? ⟨sb, so + k, none⟩ = some (.slice ya y.length yc) ∧ RS 1 RInt w B y (.slice ya y.length yc) := by
  intro k y hx
  rcases hr.open with ⟨e, _⟩ | ⟨sb, so, c', hv, _, _, _, he⟩
  · rw [e] at hx; simp at hx
  · injection hv with e1 _ _
    obtain ⟨u, hul, hat, vy, hue, hry⟩ := he k y hx
    subst hue
    obtain ⟨ya, yc, rfl⟩ := hry.slice
    have k0 := hat.get (j := 0) rfl
    simp only [Nat.add_zero, Nat.mul_one] at k0
    exact ⟨sb, so, ya, yc, e1, k0, hry⟩
set_option maxHeartbeats 3200000 in
theorem mkSS {B E : Nat} {V U W : World} (xs : List (List Int)) (v : Value) (hE : E = V.heap.size) (hr : RS 1 RIntS V B xs v) (hl : szL szIntS xs ≤ 1048576) (h : MJ B E V U W) : Calls Try.prog 10 #[v, .int .i64 1] W fun e W' => (∃ q : Nat, e = .returned (.int .i64 (q : Int)) ∧ q ≤ 4000000) ∧ MJ B E V U W' := by
  have hln := hr.len
  have hsm := szL_sm szIntS xs
  unfold maxLen at hln
  obtain ⟨a, c, rfl⟩ := hr.slice
  have HD := hide (heads' hr)
  have H := hide h
  have HEE := hide hE
  have hxl : xs.length ≤ 1048576 := by omega
  have HSM : Hid (∀ (j : Nat) x, xs[j]? = some x → x.length ≤ 1048576 ∧ sm szIntS (xs.take (j + 1)) = sm szIntS (xs.take j) + x.length ∧ sm szIntS (xs.take (j + 1)) ≤ 1048576) := hide (fun j x hx => by
    have h1 := sm_take (f := szIntS) hx
    have h2 := sm_le (f := szIntS) (xs := xs) (j + 1)
    have h3 : szIntS x = x.length := by unfold szIntS szL; rw [show (x.map fun _ => 0).sum = 0 from sm_zero x]; omega
    rw [h3] at h1
    exact ⟨by omega, h1, by omega⟩)
  clear hr h hE hl hsm
  go_enter Try.func10, Try.ntmps10
  go_wp2
  go_loopw [1, 5] (fun z i wr => ∃ j : Nat, j ≤ xs.length ∧ i = .int .i64 (j : Int) ∧ z = .int .i64 ((1 + sm szIntS (xs.take j) : Nat) : Int) ∧ sm szIntS (xs.take j) ≤ 1048576 ∧ MJ B E V U wr) (fun z i wr => xs.length - (intOf i).toNat)
  case atStart => exact ⟨0, Nat.zero_le _, rfl, by simp [sm], by simp [sm], unhide H⟩
  case round =>
    obtain ⟨j, hj, rfl, rfl, hs, hm⟩ := hrel
    clear H
    by_cases hjl : j < xs.length
    · have hx : xs[j]? = some xs[j] := List.getElem?_eq_getElem hjl
      generalize xs[j] = x at hx
      obtain ⟨sb, so, ya, yc, rfl, hcell, hry⟩ := unhide HD j x hx
      obtain ⟨s1, s2, s3⟩ := unhide HSM j x hx
      have hc2 := hm.oth _ _ _ hcell (fun z e => by cases e)
      have HM := hide (mkS x _ (1 + sm szIntS (xs.take j)) (unhide HEE) hry s1 (by omega) hm)
      have j1 : (j : Int) < (xs.length : Int) := by omega
      have j2 : (0 : Int) ≤ (j : Int) := by omega
      have HS2 : Hid (1 + sm szIntS (xs.take j) + x.length = 1 + sm szIntS (xs.take (j + 1))) := hide (by omega)
      have HS3 := hide s3
      clear hm hx hcell hry s1 s2 s3 HD HSM hs
      generalize 1 + sm szIntS (xs.take j) = m at *
      go_wp2_with fail
      refine (unhide HM).mono ?_
      rintro e W1 ⟨rfl, hm1⟩
      have HM1 := hide hm1
      clear hm1 HM
      go_wp2
      exact ⟨⟨j + 1, by omega, by go_num, by rw [← unhide HS2]; simp, unhide HS3, unhide HM1⟩, by simp [intOf]; omega⟩
    · obtain rfl : j = xs.length := by omega
      have j1 : ¬ (xs.length : Int) < (xs.length : Int) := by omega
      have HE := hide hm
      have HB : Hid (1 + sm szIntS (xs.take xs.length) ≤ 4000000) := hide (by omega)
      clear hm HD HSM hs
      generalize 1 + sm szIntS (xs.take xs.length) = q at *
      go_wp2
      exact bodyPost_ret (v := .int .i64 (q : Int)) (by simp [results, Try.results10, go_sem]) rfl ⟨⟨q, rfl, unhide HB⟩, unhide HE⟩
end Go.Proofs.Ytonfbnbkhpabbaa
