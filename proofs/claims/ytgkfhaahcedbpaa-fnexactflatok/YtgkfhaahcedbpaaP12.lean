/- The program's look: a process. -/
import Derived.Test.YtgkfhaahcedbpaaGRW8
namespace Go.Proofs.Ytgkfhaahcedbpaa
open Go Go.RowKit Gs
set_option linter.unusedVariables false
set_option linter.unusedSimpArgs false
set_option maxRecDepth 100000
set_option maxHeartbeats 64000000
def nameB (s : ByteArray) : Bool := decide (1 ≤ s.size) && decide (s.size ≤ 1000)
def clockB (sg : List Signal) (kind clock : Int) : Bool := if kind = 3 then (match sigAt sg clock with | none => false | some g => decide (g.width = 1) && !decide (g.kind = 5)) else decide (clock = -1)
def bodyB (kind bk : Int) (L : Nat) : Bool := if kind = 1 then decide (L = 1) else if kind = 2 ∨ kind = 3 ∨ kind = 4 then decide (bk = 1) else true
def nmB (kind : Int) (nm : ByteArray) : Bool := if kind = 5 then nameB nm else !nameB nm && nm.toList.isEmpty
def preP (sg : List Signal) (p : Proc) : Bool := bodyB p.kind p.body.kind p.body.exs.length && (clockB sg p.kind p.clock && nmB p.kind p.name)
/-- What st leaves. -/
def AStP (sg : List Signal) (kd tg d : Nat) (x : St) (k : Nat) (lb : Nat) (sv : Value) (T : TypeId) (W : World) (v : Value) (w : World) : Prop := ∃ (r : Bool) (k' : Int), v = .bool r ∧ r = (okSN sg kd tg d 1 x && decide (cntSN d x ≤ k)) ∧ (r = true → k' = (k : Int) - (cntSN d x : Nat)) ∧ Pl lb sv T w k' ∧ Fx lb W w
/-- What proc leaves. -/
def PrPost (lb : Nat) (sv : Value) (T : TypeId) (W : World) (PB OK : Bool) (c k : Nat) : Ending → World → Prop := fun e W' => ∃ (r : Bool) (k' : Int), e = .returned (.bool r) ∧ r = ((PB && OK) && decide (c ≤ k)) ∧ (r = true → k' = (k : Int) - (c : Nat)) ∧ Pl lb sv T W' k' ∧ Fx lb W W'
theorem PrPost.no {lb : Nat} {sv : Value} {T : TypeId} {W W' : World} {PB OK : Bool} {c k : Nat} {k' : Int} (h : PB = false) (hp : Pl lb sv T W' k' ∧ Fx lb W W') : PrPost lb sv T W PB OK c k (.returned (.bool false)) W' :=
  ⟨false, k', rfl, by rw [h]; rfl, fun e => (by cases e), hp.1, hp.2⟩
theorem PrPost.yes {lb : Nat} {sv : Value} {T : TypeId} {W W' : World} {PB OK : Bool} {c k : Nat} {k' : Int} {r : Bool} (h : PB = true) (hr : r = (OK && decide (c ≤ k))) (hk : r = true → k' = (k : Int) - (c : Nat)) (hp : Pl lb sv T W' k') (hf : Fx lb W W') : PrPost lb sv T W PB OK c k (.returned (.bool r)) W' :=
  ⟨r, k', rfl, by rw [h, Bool.true_and]; exact hr, hk, hp, hf⟩
def FPr (kind bk bn bl bw : Int) (ka kb : Option Addr) (L L2 kc kc2 lb eb : Nat) : Nat → Value → Prop
  | 0, v => v = .pointer (some ⟨lb, 0, none⟩)
  | 1, v => v = .pointer (some ⟨eb, 3, none⟩)
  | 2, v => v = .agg #[.int .i64 bk, .int .i64 bn, .int .i64 bl, .int .i64 bw, .slice ka L kc, .slice kb L2 kc2]
  | 3, v => v = .pointer (some ⟨eb, 0, none⟩)
  | 4, v => v = .int .i64 kind
  | 5, v => v = .int .u64 (stOf kind : Nat)
  | 6, v => v = .pointer (some ⟨eb, 0, none⟩)
  | 7, v => v = .int .i64 kind
  | 8, v => v = .int .u64 (setOf kind : Nat)
  | _, _ => True
theorem iProc1 (sg : List Signal) (w0 : World) (sv : Value) (T : TypeId) (d : Nat) (body : St) (nm : ByteArray) (clock bk bn bl bw : Int) (ka kb : Option Addr) (L L2 kc kc2 : Nat) (k : Nat) (W : World) (PB : Bool)  (hnm : nm.size ≤ maxLen) (hL : L ≤ 9223372036854775807) (hp : Pl w0.heap.size sv T W k) (hbw : Below w0.heap.size w0 W) (HSG : Hid (∀ V, Below W.heap.size W V → Calls Try.prog 28 #[.pointer (some ⟨w0.heap.size, 0, none⟩), .int .i64 clock] V fun e W' => (e = .returned (match sigAt sg clock with | none => .tuple #[.agg #[.string ByteArray.empty, .int .i64 0, .int .i64 0, .int .i64 0, .bool false, .string ByteArray.empty], .bool false] | some g => .tuple #[.agg #[.string g.name, .int .i64 g.kind, .int .i64 g.width, .int .i64 g.depth, .bool g.signed, .string g.init], .bool true])) ∧ Below V.heap.size V W'))
    (HST : Hid (∀ V, Pl w0.heap.size sv T V k → Below w0.heap.size w0 V → Calls Try.prog 29 #[.pointer (some ⟨w0.heap.size, 0, none⟩), .agg #[.int .i64 bk, .int .i64 bn, .int .i64 bl, .int .i64 bw, .slice ka L kc, .slice kb L2 kc2], .int .u64 (stOf 1 : Nat), .int .u64 (setOf 1 : Nat), .int .i64 1] V fun e W' => ∃ (r : Bool) (k' : Int), e = .returned (.bool r) ∧ r = (okSN sg (stOf 1) (setOf 1) d 1 body && decide (cntSN d body ≤ k)) ∧ (r = true → k' = (k : Int) - (cntSN d body : Nat)) ∧ Pl w0.heap.size sv T W' k' ∧ Fx w0.heap.size V W')) (HF : (bodyB 1 bk L && (clockB sg 1 clock && nmB 1 nm)) = PB) :
    Calls Try.prog 16 #[.pointer (some ⟨w0.heap.size, 0, none⟩), .agg #[.int .i64 1, .int .i64 clock, .string nm, .int .i64 bk, .int .i64 bn, .int .i64 bl, .int .i64 bw, .slice ka L kc, .slice kb L2 kc2]] W (PrPost w0.heap.size sv T W PB (okSN sg (stOf 1) (setOf 1) d 1 body) (cntSN d body) k) := by
  obtain ⟨X, hX⟩ : ∃ X, X = W.alloc (.cells #[.int .i64 1, .int .i64 clock, .string nm, .int .i64 bk, .int .i64 bn, .int .i64 bl, .int .i64 bw, .slice ka L kc, .slice kb L2 kc2] 48) := ⟨_, rfl⟩
  have hbX : Below W.heap.size W X := by rw [hX]; exact bal (brf W) _
  have HZP := hide (hp.later hbX)
  have HZF := hide (Fx.of (g := w0.heap.size) hbX)
  have HZB := hide (Fx.below hbw (unhide HZF) (Nat.le_refl _) hbw.size)
  have HBX := hide hbX
  have HZC : Hid (∀ V, Below X.heap.size X V → V.cell? ⟨W.heap.size, 0, none⟩ = some (.int .i64 1) ∧ V.cell? ⟨W.heap.size, 1, none⟩ = some (.int .i64 clock) ∧ V.cell? ⟨W.heap.size, 2, none⟩ = some (.string nm) ∧ V.cell? ⟨W.heap.size, 3, none⟩ = some (.int .i64 bk) ∧ V.cell? ⟨W.heap.size, 4, none⟩ = some (.int .i64 bn) ∧ V.cell? ⟨W.heap.size, 5, none⟩ = some (.int .i64 bl) ∧ V.cell? ⟨W.heap.size, 6, none⟩ = some (.int .i64 bw) ∧ V.cell? ⟨W.heap.size, 7, none⟩ = some (.slice ka L kc) ∧ V.cell? ⟨W.heap.size, 8, none⟩ = some (.slice kb L2 kc2)) := hide (fun V hV => by
    refine ⟨?_, ?_, ?_, ?_, ?_, ?_, ?_, ?_, ?_⟩ <;> exact cell_later hV (by rw [hX, World.cell?_alloc_new]; rfl))
  have HX := hide hX
  have HF := hide HF
  have SN0 := fun w => iNameFits nm w hnm
  clear hX hbX hp hbw hnm
  by_cases h1 : L = 1
  rotate_left
  · have n1 : ((L : Int) != 1) = true := bne_iff_ne.2 (by omega)
    have HQ := hide (show PB = false from (unhide HF).symm.trans (by simp [bodyB, h1]))
    have HPF := hide (show Pl w0.heap.size sv T X k ∧ Fx w0.heap.size W X from ⟨unhide HZP, unhide HZF⟩)
    clear HF HST HSG HZC SN0
    go_enter Try.func16, Try.ntmps16
    go_wp2_with fail
    rw [← unhide HX]
    exact bodyPost_ret (v := .bool false) (by simp [results, Try.results16, go_sem]) rfl (PrPost.no (unhide HQ) (unhide HPF))
  subst h1
  by_cases hc : clock = -1
  rotate_left
  · have n0 : (clock != -1) = true := bne_iff_ne.2 hc
    have HQ := hide (show PB = false from (unhide HF).symm.trans (by simp [clockB, hc]))
    have HPF := hide (show Pl w0.heap.size sv T X k ∧ Fx w0.heap.size W X from ⟨unhide HZP, unhide HZF⟩)
    clear HF HST HSG HZC SN0
    go_enter Try.func16, Try.ntmps16
    go_wp2_with fail
    rw [← unhide HX]
    exact bodyPost_ret (v := .bool false) (by simp [results, Try.results16, go_sem]) rfl (PrPost.no (unhide HQ) (unhide HPF))
  subst hc
  cases hnb : (decide (1 ≤ nm.size) && decide (nm.size ≤ 1000))
  · cases hE : nm.toList.isEmpty
    · have HQ := hide (show PB = false from (unhide HF).symm.trans (by simp [nmB, hE]))
      clear HF HST
      go_enter Try.func16, Try.ntmps16
      go_wp2_with fail
      rw [← unhide HX]
      obtain ⟨c0, c1, c2, c3, c4, c5, c6, c7, c8⟩ := unhide HZC X (brf X)
      have SN : ∀ w, Calls Try.prog 25 #[.string nm] w fun e w' => e = .returned (.bool false) ∧ w' = w := fun w => by rw [← hnb]; exact SN0 w
      clear SN0 hnb
      go_quiet ((go_at_call 25; exact Calls.quiet_of_same (SN _)))
      go_wp2_with fail
      exact bodyPost_ret (v := .bool false) (by simp [results, Try.results16, go_sem]) rfl (PrPost.no (unhide HQ) ⟨(unhide HZP).later (bdn (brf _)), (unhide HZF).trans (Fx.of (bdn (brf _)))⟩)
    · have HQ := hide (show PB = true from (unhide HF).symm.trans (by rw [show nmB 1 nm = true from by unfold nmB nameB; rw [hnb, hE]; simp]; simp [bodyB, clockB]))
      clear HF
      go_enter Try.func16, Try.ntmps16
      go_wp2_with fail
      rw [← unhide HX]
      obtain ⟨c0, c1, c2, c3, c4, c5, c6, c7, c8⟩ := unhide HZC X (brf X)
      have SN : ∀ w, Calls Try.prog 25 #[.string nm] w fun e w' => e = .returned (.bool false) ∧ w' = w := fun w => by rw [← hnb]; exact SN0 w
      clear SN0 hnb
      go_quiet ((go_at_call 25; exact Calls.quiet_of_same (SN _)))
      go_wp2_with fail
      refine wp_plan (GB (FPr 1 bk bn bl bw ka kb 1 L2 kc kc2 w0.heap.size W.heap.size) (fun _ _ _ => True) 9 (AStP sg (stOf 1) (setOf 1) d body k w0.heap.size sv T (X.drewN nq))) (JC (X.drewN nq) 9) (by kernel_rfl) 76 (by kernel_rfl) (by kernel_rfl) ?hj ?hs ?hf
      case hj => exact fun _ => bdr (brf _)
      case hs =>
        refine ⟨?_, ?_, ?_, ?_, ?_, ?_, ?_, ?_, ?_, ?_, ?_, trivial⟩
        · exact sb_val (by decide) (by decide) (fun l a w hp hu => ⟨(und hp (k := 0) (j := 9) (by kernel_rfl) hu), (und hp (k := 0) (j := 10) (by kernel_rfl) hu)⟩) rfl (fun l a V hp h1 hB ha => ⟨.pointer (some ⟨w0.heap.size, 0, none⟩), by
            have x0 := (ev_form a 0).trans (old hp 0 (v := .pointer (some ⟨w0.heap.size, 0, none⟩)) (by kernel_rfl) (by kernel_rfl))
            go_simp, rfl, trivial⟩)
        · exact sb_val (by decide) (by decide) (fun l a w hp hu => ⟨(und hp (k := 2) (j := 9) (by kernel_rfl) (und hp (k := 1) (j := 2) (by kernel_rfl) hu)), (und hp (k := 1) (j := 10) (by kernel_rfl) hu)⟩) rfl (fun l a V hp h1 hB ha => ⟨.pointer (some ⟨W.heap.size, 3, none⟩), by
            have x3 := (ev_form a 3).trans (old hp 3 (v := .pointer (some ⟨W.heap.size, 0, none⟩)) (by kernel_rfl) (by kernel_rfl))
            go_simp, rfl, trivial⟩)
        · exact sb_val (by decide) (by decide) (fun l a w hp hu => ⟨(und hp (k := 2) (j := 9) (by kernel_rfl) hu), (und hp (k := 2) (j := 10) (by kernel_rfl) hu)⟩) rfl (fun l a V hp h1 hB ha => ⟨.agg #[.int .i64 bk, .int .i64 bn, .int .i64 bl, .int .i64 bw, .slice ka 1 kc, .slice kb L2 kc2], by
            have x67 := (ev_form a 67).trans (show a.eval (.tmp 67) = .pointer (some ⟨W.heap.size, 3, none⟩) from (kn hp ha 67 1 (by kernel_rfl) (by kernel_rfl)).1)
            obtain ⟨y0, y1, y2, y3, y4, y5, y6, y7, y8⟩ := unhide HZC V (btr (bdn (brf _)) hB)
            go_simp, rfl, trivial⟩)
        · exact sb_val (by decide) (by decide) (fun l a w hp hu => ⟨(und hp (k := 5) (j := 9) (by kernel_rfl) (und hp (k := 4) (j := 5) (by kernel_rfl) (und hp (k := 3) (j := 4) (by kernel_rfl) hu))), (und hp (k := 3) (j := 10) (by kernel_rfl) hu)⟩) rfl (fun l a V hp h1 hB ha => ⟨.pointer (some ⟨W.heap.size, 0, none⟩), by
            have x3 := (ev_form a 3).trans (old hp 3 (v := .pointer (some ⟨W.heap.size, 0, none⟩)) (by kernel_rfl) (by kernel_rfl))
            go_simp, rfl, trivial⟩)
        · exact sb_val (by decide) (by decide) (fun l a w hp hu => ⟨(und hp (k := 5) (j := 9) (by kernel_rfl) (und hp (k := 4) (j := 5) (by kernel_rfl) hu)), (und hp (k := 4) (j := 10) (by kernel_rfl) hu)⟩) rfl (fun l a V hp h1 hB ha => ⟨.int .i64 1, by
            have x69 := (ev_form a 69).trans (show a.eval (.tmp 69) = .pointer (some ⟨W.heap.size, 0, none⟩) from (kn hp ha 69 3 (by kernel_rfl) (by kernel_rfl)).1)
            obtain ⟨y0, y1, y2, y3, y4, y5, y6, y7, y8⟩ := unhide HZC V (btr (bdn (brf _)) hB)
            go_simp, rfl, trivial⟩)
        · exact sb_call (f := 30) (fun _ _ _ _ _ _ => trivial) (by decide) (by decide) (fun l a w hp hu => ⟨(und hp (k := 5) (j := 9) (by kernel_rfl) hu), (und hp (k := 5) (j := 10) (by kernel_rfl) hu)⟩) rfl (fun l a V hp h1 hB ha => ⟨#[.int .i64 1], by
            have x70 := (ev_form a 70).trans (show a.eval (.tmp 70) = .int .i64 1 from (kn hp ha 70 4 (by kernel_rfl) (by kernel_rfl)).1)
            go_simp, (iStOf 1 V).mono (by rintro e V1 ⟨rfl, rfl⟩; exact ⟨_, rfl, rfl, trivial, brf _⟩)⟩)
        · exact sb_val (by decide) (by decide) (fun l a w hp hu => ⟨(und hp (k := 8) (j := 9) (by kernel_rfl) (und hp (k := 7) (j := 8) (by kernel_rfl) (und hp (k := 6) (j := 7) (by kernel_rfl) hu))), (und hp (k := 6) (j := 10) (by kernel_rfl) hu)⟩) rfl (fun l a V hp h1 hB ha => ⟨.pointer (some ⟨W.heap.size, 0, none⟩), by
            have x3 := (ev_form a 3).trans (old hp 3 (v := .pointer (some ⟨W.heap.size, 0, none⟩)) (by kernel_rfl) (by kernel_rfl))
            go_simp, rfl, trivial⟩)
        · exact sb_val (by decide) (by decide) (fun l a w hp hu => ⟨(und hp (k := 8) (j := 9) (by kernel_rfl) (und hp (k := 7) (j := 8) (by kernel_rfl) hu)), (und hp (k := 7) (j := 10) (by kernel_rfl) hu)⟩) rfl (fun l a V hp h1 hB ha => ⟨.int .i64 1, by
            have x72 := (ev_form a 72).trans (show a.eval (.tmp 72) = .pointer (some ⟨W.heap.size, 0, none⟩) from (kn hp ha 72 6 (by kernel_rfl) (by kernel_rfl)).1)
            obtain ⟨y0, y1, y2, y3, y4, y5, y6, y7, y8⟩ := unhide HZC V (btr (bdn (brf _)) hB)
            go_simp, rfl, trivial⟩)
        · exact sb_call (f := 31) (fun _ _ _ _ _ _ => trivial) (by decide) (by decide) (fun l a w hp hu => ⟨(und hp (k := 8) (j := 9) (by kernel_rfl) hu), (und hp (k := 8) (j := 10) (by kernel_rfl) hu)⟩) rfl (fun l a V hp h1 hB ha => ⟨#[.int .i64 1], by
            have x73 := (ev_form a 73).trans (show a.eval (.tmp 73) = .int .i64 1 from (kn hp ha 73 7 (by kernel_rfl) (by kernel_rfl)).1)
            go_simp, (iSetBy 1 V).mono (by rintro e V1 ⟨rfl, rfl⟩; exact ⟨_, rfl, rfl, trivial, brf _⟩)⟩)
        · refine sb_wcall (f := 29) (fun l a w hp hu => (und hp (k := 9) (j := 10) (by kernel_rfl) hu)) rfl (fun l a V hp h1 hB ha => ?_)
          have x66 := (ev_form a 66).trans (show a.eval (.tmp 66) = .pointer (some ⟨w0.heap.size, 0, none⟩) from (kn hp ha 66 0 (by kernel_rfl) (by kernel_rfl)).1)
          have x68 := (ev_form a 68).trans (show a.eval (.tmp 68) = .agg #[.int .i64 bk, .int .i64 bn, .int .i64 bl, .int .i64 bw, .slice ka 1 kc, .slice kb L2 kc2] from (kn hp ha 68 2 (by kernel_rfl) (by kernel_rfl)).1)
          have x71 := (ev_form a 71).trans (show a.eval (.tmp 71) = .int .u64 (stOf 1 : Nat) from (kn hp ha 71 5 (by kernel_rfl) (by kernel_rfl)).1)
          have x74 := (ev_form a 74).trans (show a.eval (.tmp 74) = .int .u64 (setOf 1 : Nat) from (kn hp ha 74 8 (by kernel_rfl) (by kernel_rfl)).1)
          refine ⟨#[.pointer (some ⟨w0.heap.size, 0, none⟩), .agg #[.int .i64 bk, .int .i64 bn, .int .i64 bl, .int .i64 bw, .slice ka 1 kc, .slice kb L2 kc2], .int .u64 (stOf 1 : Nat), .int .u64 (setOf 1 : Nat), .int .i64 1], by go_simp, (unhide HST V ((unhide HZP).later (btr (bdn (brf _)) hB)) (btr (unhide HZB) (btr (bdn (brf _)) hB))).mono ?_⟩
          rintro e V1 ⟨r, k', rfl, hr, hk, hp', hf'⟩
          exact ⟨_, rfl, ⟨r, k', rfl, hr, hk, hp', (Fx.of hB).trans hf'⟩, trivial⟩
        · refine sb_last (t := 75) rfl rfl (by kernel_rfl) (fun l a V hp => ?_) (fun _ => trivial)
          have x75 := ev_form a 75
          generalize a.eval (.tmp 75) = tv' at *
          go_simp
      case hf =>
        intro l a W3 hp hall
        have hv := (hp.good 10 _ 4 rfl rfl (hall 10 (by decide))).2.2 (.inr rfl)
        obtain ⟨us1, rfl, hus⟩ := putAll_of [66, 67, 68, 69, 70, 71, 72, 73, 74, 75, 4] hp.nt hp.df (fun t ht => hp.keep t (dstIn (by kernel_rfl) ht))
        obtain ⟨nv1, hnv⟩ : ∃ nv, us1 4 = nv := ⟨_, rfl⟩
        have hap : (AStP sg (stOf 1) (setOf 1) d body k w0.heap.size sv T (X.drewN nq)) nv1 W3 := by rw [← hnv, hus 4]; exact hv
        clear hp hall hus hv
        simp only [putAll, List.foldl, Act.put, List.setIfInBounds_toArray, List.set_cons_zero, List.set_cons_succ, hnv]
        clear hnv
        obtain ⟨r, k', rfl, hr, hk, hp', hf'⟩ := hap
        have HPOST := hide (PrPost.yes (W := W) (unhide HQ) hr hk hp' (((unhide HZF).trans (Fx.of (bdn (brf _)))).trans hf'))
        clear hr hk hp' hf'
        go_wp2_with fail
        exact bodyPost_ret (v := .bool r) (by simp [results, Try.results16, go_sem]) rfl (unhide HPOST)
  · have HQ := hide (show PB = false from (unhide HF).symm.trans (by rw [show nmB 1 nm = false from by unfold nmB nameB; rw [hnb]; simp]; simp))
    clear HF HST
    go_enter Try.func16, Try.ntmps16
    go_wp2_with fail
    rw [← unhide HX]
    obtain ⟨c0, c1, c2, c3, c4, c5, c6, c7, c8⟩ := unhide HZC X (brf X)
    have SN : ∀ w, Calls Try.prog 25 #[.string nm] w fun e w' => e = .returned (.bool true) ∧ w' = w := fun w => by rw [← hnb]; exact SN0 w
    clear SN0 hnb
    go_quiet ((go_at_call 25; exact Calls.quiet_of_same (SN _)))
    go_wp2_with fail
    exact bodyPost_ret (v := .bool false) (by simp [results, Try.results16, go_sem]) rfl (PrPost.no (unhide HQ) ⟨(unhide HZP).later (bdn (brf _)), (unhide HZF).trans (Fx.of (bdn (brf _)))⟩)
end Go.Proofs.Ytgkfhaahcedbpaa
