/- The program's Tseitin: the region that puts an and's clauses to the others. -/
import Derived.Test.YtnoklbnacfmpdacT7
import Derived.Test.YtnoklbnacfmpdacRWa
namespace Go.Proofs.Ytnoklbnacfmpdac
open Go Go.RowKit Gs
set_option linter.unusedVariables false
set_option linter.unusedSimpArgs false
set_option maxRecDepth 100000
theorem clL_bd' {z : Int} (h0 : 0 ≤ z) (h1 : z ≤ 8388606) : -8388608 ≤ clL z ∧ clL z ≤ 8388608 := by
  unfold clL; split <;> omega
theorem grown_other {W W' : World} {v : Value} {n k B : Nat} {t : TypeId} {vs : List Value} (hown : W.ownsRow B 51 1 v n vs) (hg : W.grownBy W' v.ownBlock) (ht : TB W k t) (hne : t ≠ 51) : W'.heap[k]? = W.heap[k]? := by
  refine hg.block k ht.lt ?_
  intro e
  rcases hown.2 with ⟨rfl, _⟩ | ⟨r, cap, cur, rfl, _, hgc, _⟩
  · cases e
  · have : k = r := by
      have : some k = some r := e
      injection this
    subst this
    obtain ⟨o, f, ht⟩ := ht
    rw [hgc] at ht
    injection ht with h1
    injection h1 with _ h3 _
    exact hne h3.symm
theorem keepsFrom_grown {W W' : World} {v : Value} {n B B0 : Nat} {vs : List Value} (hown : W.ownsRow B 51 1 v n vs) (hg : W.grownBy W' v.ownBlock) : KeepsFrom B0 W W' := by
  refine ⟨hg.size, fun k o _ hk ho => (hg.block k (Array.getElem?_eq_some_iff.1 hk).1 ?_).trans hk⟩
  intro e
  rcases hown.2 with ⟨rfl, _⟩ | ⟨r, cap, cur, rfl, _, hgc, _⟩
  · cases e
  · have : k = r := by
      have : some k = some r := e
      injection this
    subst this
    rw [hgc] at hk
    cases hk
    cases ho
def FT (va : Option Addr) (n0 vc h : Nat) (n za zb : Int) : Nat → Value → Prop
  | 0, v => v = .slice va n0 vc
  | 1, v => v = .int .i64 n
  | 2, v => v = .pointer (some ⟨h, 0, none⟩)
  | 3, v => v = .int .i64 za
  | 4, v => v = .int .i64 (clL za)
  | 5, v => v = .pointer (some ⟨h, 1, none⟩)
  | 6, v => v = .int .i64 zb
  | 7, v => v = .int .i64 (clL zb)
  | _, _ => True
def F2T (w0 : World) (n ca cb : Int) (q qq : Nat) : Nat → World → Value → Prop := fun k W v => k = 8 → ∃ gg us E', v = .slice (some ⟨gg, 0, none⟩) 3 3 ∧ us.length = 3 ∧ (∀ u ∈ us, u.oneCell' = true) ∧ E' ≤ W.heap.size ∧ RI W w0.heap.size E' (andC n ca cb) us ∧ ∀ j u, us[j]? = some u → W.cell? ⟨gg, j, none⟩ = some u
theorem F2T_lasts (w0 : World) (n ca cb : Int) (q : Nat) : Lasts (F2T w0 n ca cb q q) := by
  intro k W W' v hb h e
  obtain ⟨gg, us, E', h1, h2, h3, h4, h5, h6⟩ := h e
  exact ⟨gg, us, E', h1, h2, h3, Nat.le_trans h4 hb.size, RI.later h5 hb, fun j u hj => cell_later hb (h6 j u hj)⟩
set_option maxHeartbeats 16000000 in
theorem ts12 (r nn : Nat) (w : World) (b7 b b2 b3 g b9 : Nat) (s3 : Option Addr) (xs : List AndG) (c3 FA N : Nat) (ns : List Bool) (cs : List (List Int)) (w0 : World) (va : Option Addr) (vc E h B0 : Nat) (n za zb : Int)
    (HST : Hid (TSt w b7 b b2 b3 g b9 s3 xs c3 FA N ns w0)) (HC9 : Hid (w0.cell? ⟨b9, 0, none⟩ = some (.slice va cs.length vc))) (HCP : Hid (CP w.heap.size E w0 (.slice va cs.length vc) cs)) (HLEN : Hid (cs.length ≤ 24577))
    (HZ0 : Hid (w0.cell? ⟨h, 0, none⟩ = some (.int .i64 za))) (HZ1 : Hid (w0.cell? ⟨h, 1, none⟩ = some (.int .i64 zb))) (hn : 0 ≤ n ∧ n ≤ 8388608) (hza : 0 ≤ za ∧ za ≤ 8388606) (hzb : 0 ≤ zb ∧ zb ≤ 8388606)
    (a0 : Act) (hnt : a0.tmps.size = 67) (e9 : a0.eval (.tmp 9) = .pointer (some ⟨b9, 0, none⟩)) (e11 : a0.eval (.tmp 11) = .pointer (some ⟨h, 0, none⟩)) (e12 : a0.eval (.tmp 12) = .int .i64 n) (Q : Exit → Act → World → Prop)
    (hQ : ∀ a V, a.tmps.size = a0.tmps.size → a.defers = a0.defers → (∀ t, t ∉ [42, 43, 44, 45, 46, 47, 48, 49, 50, 51] → a.eval (.tmp t) = a0.eval (.tmp t)) → TS w b7 b b2 b3 g b9 s3 xs c3 FA N ns (cs ++ andC n (clL za) (clL zb)) V → KeepsFrom B0 w0 V → Q .normal a V) :
    (Code.region 12 #[{ dst := some 42, op := Op.load 29 (Operand.tmp 9), type := 29, pos := "l13_sat.go:336", after := #[], guard := none }, { dst := some 43, op := Op.move (Operand.tmp 12), type := 3, pos := "l13_sat.go:336", after := #[], guard := none }, { dst := some 44, op := Op.fieldAddr 54 (Operand.tmp 11) 0, type := 0, pos := "l13_sat.go:336", after := #[], guard := none }, { dst := some 45, op := Op.load 3 (Operand.tmp 44), type := 3, pos := "l13_sat.go:336", after := #[{ on := 2, ground := Ground.data }], guard := none }, { dst := some 46, op := Op.call { callee := Callee.value (Operand.func 29), args := #[Operand.tmp 45], argTypes := #[3] }, type := 3, pos := "l13_sat.go:336", after := #[{ on := 3, ground := Ground.data }], guard := none }, { dst := some 47, op := Op.fieldAddr 54 (Operand.tmp 11) 1, type := 0, pos := "l13_sat.go:336", after := #[], guard := none }, { dst := some 48, op := Op.load 3 (Operand.tmp 47), type := 3, pos := "l13_sat.go:336", after := #[{ on := 5, ground := Ground.data }], guard := none }, { dst := some 49, op := Op.call { callee := Callee.value (Operand.func 29), args := #[Operand.tmp 48], argTypes := #[3] }, type := 3, pos := "l13_sat.go:336", after := #[{ on := 6, ground := Ground.data }, { on := 4, ground := Ground.chain }], guard := none }, { dst := some 50, op := Op.call { callee := Callee.value (Operand.func 31), args := #[Operand.tmp 43, Operand.tmp 46, Operand.tmp 49], argTypes := #[3, 3, 3] }, type := 29, pos := "l13_sat.go:336", after := #[{ on := 1, ground := Ground.data }, { on := 4, ground := Ground.data }, { on := 7, ground := Ground.data }, { on := 7, ground := Ground.chain }], guard := none }, { dst := some 51, op := Op.call { callee := Callee.builtin Builtin.append, args := #[Operand.tmp 42, Operand.tmp 50], argTypes := #[29, 29] }, type := 29, pos := "l13_sat.go:336", after := #[{ on := 0, ground := Ground.data }, { on := 8, ground := Ground.data }, { on := 8, ground := Ground.chain }], guard := none }, { dst := none, op := Op.store 29 (Operand.tmp 9) (Operand.tmp 51), type := 0, pos := "l13_sat.go:336", after := #[{ on := 9, ground := Ground.data }, { on := 9, ground := Ground.chain }, { on := 0, ground := Ground.phase }, { on := 1, ground := Ground.phase }, { on := 2, ground := Ground.phase }, { on := 3, ground := Ground.phase }, { on := 4, ground := Ground.phase }, { on := 5, ground := Ground.phase }, { on := 6, ground := Ground.phase }, { on := 7, ground := Ground.phase }, { on := 8, ground := Ground.phase }, { on := 9, ground := Ground.phase }], guard := none }] true).wpIn (Fence.wide.inRound r) nn Try.prog Q a0 w0 := by
  refine wpIn_plan (GAr (FT va cs.length vc h n za zb) (F2T w0 n (clL za) (clL zb) 0 0) 9 10 (fun v V => (∃ E', CP w.heap.size E' V v (cs ++ andC n (clL za) (clL zb))) ∧ TSt w b7 b b2 b3 g b9 s3 xs c3 FA N ns V ∧ (∃ c9, V.cell? ⟨b9, 0, none⟩ = some c9) ∧ KeepsFrom B0 w0 V))
    (JAr w0 9 10 (fun v V => (∃ E', CP w.heap.size E' V v (cs ++ andC n (clL za) (clL zb))) ∧ TSt w b7 b b2 b3 g b9 s3 xs c3 FA N ns V ∧ (∃ c9, V.cell? ⟨b9, 0, none⟩ = some c9) ∧ KeepsFrom B0 w0 V) (fun V => TS w b7 b b2 b3 g b9 s3 xs c3 FA N ns (cs ++ andC n (clL za) (clL zb)) V ∧ KeepsFrom B0 w0 V)) (by kernel_rfl) 67 hnt (by kernel_rfl) ?hj ?hs ?hf
  case hj => exact JAr.start (bdr (brf w0))
  case hs =>
    refine ⟨?_, ?_, ?_, ?_, ?_, ?_, ?_, ?_, ?_, ?_, ?_, trivial⟩
    · exact sar_val (by decide) (by decide) (fun l a w hp hu => ⟨und hp (k := 0) (j := 9) (by kernel_rfl) (hu), und hp (k := 0) (j := 10) (by kernel_rfl) (hu)⟩) rfl (fun l a V hp h1 hB ha => ⟨.slice va cs.length vc, by
        have x9 := (ev_form a 9).trans (old hp 9 (v := .pointer (some ⟨b9, 0, none⟩)) (by kernel_rfl) e9)
        have mz := cell_later hB (unhide HC9)
        go_simp, rfl, fun e => absurd e (by decide)⟩)
    · exact sar_val (by decide) (by decide) (fun l a w hp hu => ⟨und hp (k := 8) (j := 9) (by kernel_rfl) (und hp (k := 1) (j := 8) (by kernel_rfl) (hu)), und hp (k := 1) (j := 10) (by kernel_rfl) (hu)⟩) rfl (fun l a V hp h1 hB ha => ⟨.int .i64 n, by
        have x12 := (ev_form a 12).trans (old hp 12 (v := .int .i64 n) (by kernel_rfl) e12)
        go_simp, rfl, fun e => absurd e (by decide)⟩)
    · exact sar_val (by decide) (by decide) (fun l a w hp hu => ⟨und hp (k := 8) (j := 9) (by kernel_rfl) (und hp (k := 4) (j := 8) (by kernel_rfl) (und hp (k := 3) (j := 4) (by kernel_rfl) (und hp (k := 2) (j := 3) (by kernel_rfl) (hu)))), und hp (k := 2) (j := 10) (by kernel_rfl) (hu)⟩) rfl (fun l a V hp h1 hB ha => ⟨.pointer (some ⟨h, 0, none⟩), by
        have x11 := (ev_form a 11).trans (old hp 11 (v := .pointer (some ⟨h, 0, none⟩)) (by kernel_rfl) e11)
        go_simp, rfl, fun e => absurd e (by decide)⟩)
    · exact sar_val (by decide) (by decide) (fun l a w hp hu => ⟨und hp (k := 8) (j := 9) (by kernel_rfl) (und hp (k := 4) (j := 8) (by kernel_rfl) (und hp (k := 3) (j := 4) (by kernel_rfl) (hu))), und hp (k := 3) (j := 10) (by kernel_rfl) (hu)⟩) rfl (fun l a V hp h1 hB ha => ⟨.int .i64 za, by
        have x44 := (ev_form a 44).trans (show a.eval (.tmp 44) = .pointer (some ⟨h, 0, none⟩) from (kn hp ha 44 2 (by kernel_rfl) (by kernel_rfl)).1)
        have mz := cell_later hB (unhide HZ0)
        go_simp, rfl, fun e => absurd e (by decide)⟩)
    · exact sar_call (f := 29) (F2T_lasts _ _ _ _ _) (by decide) (by decide) (fun l a w hp hu => ⟨und hp (k := 8) (j := 9) (by kernel_rfl) (und hp (k := 4) (j := 8) (by kernel_rfl) (hu)), und hp (k := 4) (j := 10) (by kernel_rfl) (hu)⟩) rfl (fun l a V hp h1 hB ha => ⟨#[.int .i64 za], by
        have x45 := (ev_form a 45).trans (show a.eval (.tmp 45) = .int .i64 za from (kn hp ha 45 3 (by kernel_rfl) (by kernel_rfl)).1)
        go_simp, (iLit13 za V hza.1 (by omega)).mono (by rintro e V1 ⟨rfl, rfl⟩; exact ⟨_, rfl, rfl, fun e => absurd e (by decide), brf _⟩)⟩)
    · exact sar_val (by decide) (by decide) (fun l a w hp hu => ⟨und hp (k := 8) (j := 9) (by kernel_rfl) (und hp (k := 7) (j := 8) (by kernel_rfl) (und hp (k := 6) (j := 7) (by kernel_rfl) (und hp (k := 5) (j := 6) (by kernel_rfl) (hu)))), und hp (k := 5) (j := 10) (by kernel_rfl) (hu)⟩) rfl (fun l a V hp h1 hB ha => ⟨.pointer (some ⟨h, 1, none⟩), by
        have x11 := (ev_form a 11).trans (old hp 11 (v := .pointer (some ⟨h, 0, none⟩)) (by kernel_rfl) e11)
        go_simp, rfl, fun e => absurd e (by decide)⟩)
    · exact sar_val (by decide) (by decide) (fun l a w hp hu => ⟨und hp (k := 8) (j := 9) (by kernel_rfl) (und hp (k := 7) (j := 8) (by kernel_rfl) (und hp (k := 6) (j := 7) (by kernel_rfl) (hu))), und hp (k := 6) (j := 10) (by kernel_rfl) (hu)⟩) rfl (fun l a V hp h1 hB ha => ⟨.int .i64 zb, by
        have x47 := (ev_form a 47).trans (show a.eval (.tmp 47) = .pointer (some ⟨h, 1, none⟩) from (kn hp ha 47 5 (by kernel_rfl) (by kernel_rfl)).1)
        have mz := cell_later hB (unhide HZ1)
        go_simp, rfl, fun e => absurd e (by decide)⟩)
    · exact sar_call (f := 29) (F2T_lasts _ _ _ _ _) (by decide) (by decide) (fun l a w hp hu => ⟨und hp (k := 8) (j := 9) (by kernel_rfl) (und hp (k := 7) (j := 8) (by kernel_rfl) (hu)), und hp (k := 7) (j := 10) (by kernel_rfl) (hu)⟩) rfl (fun l a V hp h1 hB ha => ⟨#[.int .i64 zb], by
        have x48 := (ev_form a 48).trans (show a.eval (.tmp 48) = .int .i64 zb from (kn hp ha 48 6 (by kernel_rfl) (by kernel_rfl)).1)
        go_simp, (iLit13 zb V hzb.1 (by omega)).mono (by rintro e V1 ⟨rfl, rfl⟩; exact ⟨_, rfl, rfl, fun e => absurd e (by decide), brf _⟩)⟩)
    · exact sar_call (f := 31) (F2T_lasts _ _ _ _ _) (by decide) (by decide) (fun l a w hp hu => ⟨und hp (k := 8) (j := 9) (by kernel_rfl) (hu), und hp (k := 8) (j := 10) (by kernel_rfl) (hu)⟩) rfl (fun l a V hp h1 hB ha => ⟨#[.int .i64 n, .int .i64 (clL za), .int .i64 (clL zb)], by
        have x43 := (ev_form a 43).trans (show a.eval (.tmp 43) = .int .i64 n from (kn hp ha 43 1 (by kernel_rfl) (by kernel_rfl)).1)
        have x46 := (ev_form a 46).trans (show a.eval (.tmp 46) = .int .i64 (clL za) from (kn hp ha 46 4 (by kernel_rfl) (by kernel_rfl)).1)
        have x49 := (ev_form a 49).trans (show a.eval (.tmp 49) = .int .i64 (clL zb) from (kn hp ha 49 7 (by kernel_rfl) (by kernel_rfl)).1)
        go_simp, (iAndC n (clL za) (clL zb) V hn (clL_bd' hza.1 hza.2) (clL_bd' hzb.1 hzb.2)).mono (by
          rintro e V1 ⟨⟨gg, us, rfl, h3, h4, h5, h6⟩, hb⟩
          exact ⟨_, rfl, trivial, fun _ => ⟨gg, us, V1.heap.size, rfl, h3, h4, Nat.le_refl _, RI.low _ _ hB.size h5, h6⟩, hb⟩)⟩)
    · refine sar_app (by decide) (fun l a w hp hu => und hp (k := 9) (j := 10) (by kernel_rfl) (hu)) rfl (fun l a V hp h1 hB ha => ?_)
      have hvr : a.eval (.tmp 42) = .slice va cs.length vc := (kn hp ha 42 0 (by kernel_rfl) (by kernel_rfl)).1
      obtain ⟨gg, us, E', hvx, h3, h4, h5, h6, h7⟩ := (kn hp ha 50 8 (by kernel_rfl) (by kernel_rfl)).2.1 h1 rfl
      obtain ⟨hE, vs, hown, hri⟩ := unhide HCP
      have hownV : V.ownsRow w.heap.size 51 1 (.slice va cs.length vc) cs.length vs := ownsRow_keep hown (fun r o _ hc => (hB.block r (Array.getElem?_eq_some_iff.1 hc).1).trans hc)
      have hstV := (unhide HST).later hB
      obtain ⟨i0, hi, hz0, hz1, hz2⟩ := info_parts info51
      obtain ⟨v', w', hr, h8, h9, _⟩ := run_append_own (P := Try.prog) V w.heap.size 29 29 51 i0 (.slice none 0 0) 1 24 Try.underlying29 hi hz0 hz1 hz2 rfl (by decide) (.slice va cs.length vc) cs.length vs hownV ⟨gg, 0, none⟩ 3 3 us (by rw [h3]) (by
        intro j u hj
        rw [Addr.add_lit, Nat.zero_add]
        exact h7 j u hj) h4 (by have := unhide HLEN; unfold maxLen; omega) (by have := unhide HLEN; omega) hstV.below.size
      refine ⟨v', w', ?_, ⟨⟨E', CP.app (ys := andC n (clL za) (clL zb)) (RI.up _ _ hE (RI.later hri hB)) hB.size h6 h5 hownV h8 h9⟩, hstV.grown hownV h9, ?_, ?_⟩, trivial⟩
      · unfold execOp
        simp only [resolve, invoke, builtin, Sem.run_bind, Sem.run_pure, Result.andThen_ok, List.map_toArray, List.map_cons, List.map_nil, hvr, hvx, hr]
      · have t9 := hstV.ty.2.2.2.2.2
        have hc9 := cell_later hB (unhide HC9)
        refine ⟨.slice va cs.length vc, (World.cell?_of_block (a := ⟨b9, 0, none⟩) ?_).trans hc9⟩
        exact grown_other hownV h9 t9 (by decide)
      · exact (keepsFrom_below hB).trans (keepsFrom_grown hownV h9)
    · refine sar_last (t := 51) (by decide) rfl rfl (by kernel_rfl) (fun l a V hp hA ha => ?_) trivial
      obtain ⟨⟨E', hcp⟩, hst, ⟨c9, hc9⟩, hkf⟩ := hA
      have x51 := ev_form a 51
      have x9 := (ev_form a 9).trans (old hp 9 (v := .pointer (some ⟨b9, 0, none⟩)) (by kernel_rfl) e9)
      have hfz := hst.fz
      obtain ⟨va', vc', hv'⟩ := hcp.shape
      rw [hv'] at x51 hcp
      refine ⟨V.setCell ⟨b9, 0, none⟩ (.slice va' (cs ++ andC n (clL za) (clL zb)).length vc'), ?_, TS.store hc9 hst hcp, hkf.trans ((KeepsOthers.setCell _ _ _).from _)⟩
      generalize (cs ++ andC n (clL za) (clL zb)).length = LL at *
      go_simp
  case hf =>
    intro l a V hp hall
    have hE := hp.j.2.1 (hall 10 (by decide))
    exact hQ a V hp.nt hp.df (fun t ht => hp.keep t (dstIn (by kernel_rfl) ht)) hE.1 hE.2
end Go.Proofs.Ytnoklbnacfmpdac
namespace Go.Proofs.Ytnoklbnacfmpdac
open Go Go.RowKit Gs
set_option linter.unusedVariables false
set_option linter.unusedSimpArgs false
set_option maxRecDepth 100000
def FU (va : Option Addr) (n0 vc : Nat) (lit : Int) : Nat → Value → Prop
  | 0, v => v = .slice va n0 vc
  | 1, v => v = .int .i64 lit
  | 2, v => v = .int .i64 (clL lit)
  | _, _ => True
def F2U (w0 : World) (cl : Int) : Nat → World → Value → Prop := fun k W v => (k = 3 → ∃ gi, v = .slice (some ⟨gi, 0, none⟩) 1 1 ∧ w0.heap.size ≤ gi ∧ W.heap[gi]? = some (.cells #[.int .i64 cl] 3)) ∧ (k = 4 → ∃ gi gg, v = .slice (some ⟨gg, 0, none⟩) 1 1 ∧ w0.heap.size ≤ gi ∧ gi + 1 ≤ W.heap.size ∧ W.heap[gi]? = some (.cells #[.int .i64 cl] 3) ∧ W.cell? ⟨gg, 0, none⟩ = some (.slice (some ⟨gi, 0, none⟩) 1 1))
theorem F2U_lasts (w0 : World) (cl : Int) : Lasts (F2U w0 cl) := by
  intro k W W' v hb h
  refine ⟨fun e => ?_, fun e => ?_⟩
  · obtain ⟨gi, h1, h2, h3⟩ := h.1 e
    exact ⟨gi, h1, h2, (hb.block gi (Array.getElem?_eq_some_iff.1 h3).1).trans h3⟩
  · obtain ⟨gi, gg, h1, h2, h3, h4, h5⟩ := h.2 e
    exact ⟨gi, gg, h1, h2, Nat.le_trans h3 hb.size, (hb.block gi (Array.getElem?_eq_some_iff.1 h4).1).trans h4, cell_later hb h5⟩
set_option maxHeartbeats 16000000 in
theorem ts13 (w : World) (b7 b b2 b3 g b9 : Nat) (s3 : Option Addr) (xs : List AndG) (c3 FA N : Nat) (ns : List Bool) (cs : List (List Int)) (w0 : World) (va : Option Addr) (vc E B0 : Nat) (lit : Int)
    (HST : Hid (TSt w b7 b b2 b3 g b9 s3 xs c3 FA N ns w0)) (HC9 : Hid (w0.cell? ⟨b9, 0, none⟩ = some (.slice va cs.length vc))) (HCP : Hid (CP w.heap.size E w0 (.slice va cs.length vc) cs)) (HLEN : Hid (cs.length ≤ 24577)) (hz : 0 ≤ lit ∧ lit ≤ 8388606)
    (a0 : Act) (hnt : a0.tmps.size = 67) (e9 : a0.eval (.tmp 9) = .pointer (some ⟨b9, 0, none⟩)) (e1 : a0.eval (.tmp 1) = .int .i64 lit) (Q : Exit → Act → World → Prop)
    (hQ : ∀ a V, a.tmps.size = a0.tmps.size → a.defers = a0.defers → (∀ t, t ∉ [52, 53, 54, 55, 56, 57] → a.eval (.tmp t) = a0.eval (.tmp t)) → TS w b7 b b2 b3 g b9 s3 xs c3 FA N ns (cs ++ [[clL lit]]) V → KeepsFrom B0 w0 V → Q .normal a V) :
    (Code.region 13 #[{ dst := some 52, op := Op.load 29 (Operand.tmp 9), type := 29, pos := "l13_sat.go:338", after := #[], guard := none }, { dst := some 53, op := Op.move (Operand.tmp 1), type := 3, pos := "l13_sat.go:338", after := #[], guard := none }, { dst := some 54, op := Op.call { callee := Callee.value (Operand.func 29), args := #[Operand.tmp 53], argTypes := #[3] }, type := 3, pos := "l13_sat.go:338", after := #[{ on := 1, ground := Ground.data }], guard := none }, { dst := some 55, op := Op.buildSlice 51 1 #[(0, Operand.tmp 54)], type := 51, pos := "l13_sat.go:338", after := #[{ on := 2, ground := Ground.data }], guard := none }, { dst := some 56, op := Op.buildSlice 29 1 #[(0, Operand.tmp 55)], type := 29, pos := "l13_sat.go:338", after := #[{ on := 3, ground := Ground.data }], guard := none }, { dst := some 57, op := Op.call { callee := Callee.builtin Builtin.append, args := #[Operand.tmp 52, Operand.tmp 56], argTypes := #[29, 29] }, type := 29, pos := "l13_sat.go:338", after := #[{ on := 0, ground := Ground.data }, { on := 4, ground := Ground.data }, { on := 2, ground := Ground.chain }], guard := none }, { dst := none, op := Op.store 29 (Operand.tmp 9) (Operand.tmp 57), type := 0, pos := "l13_sat.go:338", after := #[{ on := 5, ground := Ground.data }, { on := 5, ground := Ground.chain }, { on := 0, ground := Ground.phase }, { on := 1, ground := Ground.phase }, { on := 2, ground := Ground.phase }, { on := 3, ground := Ground.phase }, { on := 4, ground := Ground.phase }, { on := 5, ground := Ground.phase }], guard := none }] true).wp Try.prog Q a0 w0 := by
  refine wp_plan (GAr (FU va cs.length vc lit) (F2U w0 (clL lit)) 5 6 (fun v V => (∃ E', CP w.heap.size E' V v (cs ++ [[clL lit]])) ∧ TSt w b7 b b2 b3 g b9 s3 xs c3 FA N ns V ∧ (∃ c9, V.cell? ⟨b9, 0, none⟩ = some c9) ∧ KeepsFrom B0 w0 V)) (JAr w0 5 6 (fun v V => (∃ E', CP w.heap.size E' V v (cs ++ [[clL lit]])) ∧ TSt w b7 b b2 b3 g b9 s3 xs c3 FA N ns V ∧ (∃ c9, V.cell? ⟨b9, 0, none⟩ = some c9) ∧ KeepsFrom B0 w0 V) (fun V => TS w b7 b b2 b3 g b9 s3 xs c3 FA N ns (cs ++ [[clL lit]]) V ∧ KeepsFrom B0 w0 V)) (by kernel_rfl) 67 hnt (by kernel_rfl) ?hj ?hs ?hf
  case hj => exact JAr.start (bdr (brf w0))
  case hs =>
    refine ⟨?_, ?_, ?_, ?_, ?_, ?_, ?_, trivial⟩
    · exact sar_val (by decide) (by decide) (fun l a w hp hu => ⟨und hp (k := 0) (j := 5) (by kernel_rfl) (hu), und hp (k := 0) (j := 6) (by kernel_rfl) (hu)⟩) rfl (fun l a V hp h1 hB ha => ⟨.slice va cs.length vc, by
        have x9 := (ev_form a 9).trans (old hp 9 (v := .pointer (some ⟨b9, 0, none⟩)) (by kernel_rfl) e9)
        have mz := cell_later hB (unhide HC9)
        go_simp, rfl, ⟨fun e => absurd e (by decide), fun e => absurd e (by decide)⟩⟩)
    · exact sar_val (by decide) (by decide) (fun l a w hp hu => ⟨und hp (k := 2) (j := 5) (by kernel_rfl) (und hp (k := 1) (j := 2) (by kernel_rfl) (hu)), und hp (k := 1) (j := 6) (by kernel_rfl) (hu)⟩) rfl (fun l a V hp h1 hB ha => ⟨.int .i64 lit, by
        have x1 := (ev_form a 1).trans (old hp 1 (v := .int .i64 lit) (by kernel_rfl) e1)
        go_simp, rfl, ⟨fun e => absurd e (by decide), fun e => absurd e (by decide)⟩⟩)
    · exact sar_call (f := 29) (F2U_lasts _ _) (by decide) (by decide) (fun l a w hp hu => ⟨und hp (k := 2) (j := 5) (by kernel_rfl) (hu), und hp (k := 2) (j := 6) (by kernel_rfl) (hu)⟩) rfl (fun l a V hp h1 hB ha => ⟨#[.int .i64 lit], by
        have x53 := (ev_form a 53).trans (show a.eval (.tmp 53) = .int .i64 lit from (kn hp ha 53 1 (by kernel_rfl) (by kernel_rfl)).1)
        go_simp, (iLit13 lit V hz.1 (by omega)).mono (by rintro e V1 ⟨rfl, rfl⟩; exact ⟨_, rfl, rfl, ⟨fun e => absurd e (by decide), fun e => absurd e (by decide)⟩, brf _⟩)⟩)
    · exact sar_new (F2U_lasts _ _) (by decide) (by decide) (fun l a w hp hu => ⟨und hp (k := 4) (j := 5) (by kernel_rfl) (und hp (k := 3) (j := 4) (by kernel_rfl) (hu)), und hp (k := 3) (j := 6) (by kernel_rfl) (hu)⟩) rfl (fun l a V hp h1 hB ha => ⟨.slice (some ⟨V.heap.size, 0, none⟩) 1 1, .cells #[.int .i64 (clL lit)] 3, by
        have x54 := (ev_form a 54).trans (show a.eval (.tmp 54) = .int .i64 (clL lit) from (kn hp ha 54 2 (by kernel_rfl) (by kernel_rfl)).1)
        go_simp, trivial, ⟨fun _ => ⟨V.heap.size, rfl, hB.size, heap_new V _⟩, fun e => absurd e (by decide)⟩⟩)
    · refine sar_new (F2U_lasts _ _) (by decide) (by decide) (fun l a w hp hu => ⟨und hp (k := 4) (j := 5) (by kernel_rfl) (hu), und hp (k := 4) (j := 6) (by kernel_rfl) (hu)⟩) rfl (fun l a V hp h1 hB ha => ?_)
      obtain ⟨gi, hv3, hgi, hgh⟩ := ((kn hp ha 55 3 (by kernel_rfl) (by kernel_rfl)).2.1 h1).1 rfl
      have x55 := (ev_form a 55).trans hv3
      exact ⟨.slice (some ⟨V.heap.size, 0, none⟩) 1 1, .cells #[.slice (some ⟨gi, 0, none⟩) 1 1] 51, by go_simp, trivial, fun e => absurd e (by decide), fun _ => ⟨gi, V.heap.size, rfl, hgi, by rw [World.size_alloc]; have := (Array.getElem?_eq_some_iff.1 hgh).1; omega, heap_al hgh, by rw [World.cell?_alloc_new]; rfl⟩⟩
    · refine sar_app (by decide) (fun l a w hp hu => und hp (k := 5) (j := 6) (by kernel_rfl) (hu)) rfl (fun l a V hp h1 hB ha => ?_)
      have hvr : a.eval (.tmp 52) = .slice va cs.length vc := (kn hp ha 52 0 (by kernel_rfl) (by kernel_rfl)).1
      obtain ⟨gi, gg, hvx, h3, h4, h5, h7⟩ := ((kn hp ha 56 4 (by kernel_rfl) (by kernel_rfl)).2.1 h1).2 rfl
      obtain ⟨hE, vs, hown, hri⟩ := unhide HCP
      have hownV : V.ownsRow w.heap.size 51 1 (.slice va cs.length vc) cs.length vs := ownsRow_keep hown (fun r o _ hc => (hB.block r (Array.getElem?_eq_some_iff.1 hc).1).trans hc)
      have hstV := (unhide HST).later hB
      obtain ⟨i0, hi, hz0, hz1, hz2⟩ := info_parts info51
      obtain ⟨v', w', hr, h8, h9, _⟩ := run_append_own (P := Try.prog) V w.heap.size 29 29 51 i0 (.slice none 0 0) 1 24 Try.underlying29 hi hz0 hz1 hz2 rfl (by decide) (.slice va cs.length vc) cs.length vs hownV ⟨gg, 0, none⟩ 1 1 [.slice (some ⟨gi, 0, none⟩) 1 1] rfl (by
        intro j u hj
        match j, hj with
        | 0, hj => simp at hj; subst hj; simpa [Addr.add] using h7
        | j + 1, hj => simp at hj) (by intro u hu; simp at hu; subst hu; rfl) (by have := unhide HLEN; unfold maxLen; omega) (by have := unhide HLEN; omega) hstV.below.size
      refine ⟨v', w', ?_, ⟨⟨gi + 1, CP.app (ys := [[clL lit]]) (ws := [.slice (some ⟨gi, 0, none⟩) 1 1]) (RI.up _ _ hE (RI.later hri hB)) hB.size ⟨gi, rfl, h3, h5, Nat.le_refl _⟩ h4 hownV h8 h9⟩, hstV.grown hownV h9, ?_⟩, trivial⟩
      · unfold execOp
        simp only [resolve, invoke, builtin, Sem.run_bind, Sem.run_pure, Result.andThen_ok, List.map_toArray, List.map_cons, List.map_nil, hvr, hvx, hr]
      · have t9 := hstV.ty.2.2.2.2.2
        have hc9 := cell_later hB (unhide HC9)
        refine ⟨⟨.slice va cs.length vc, (World.cell?_of_block (a := ⟨b9, 0, none⟩) (grown_other hownV h9 t9 (by decide))).trans hc9⟩, (keepsFrom_below hB).trans (keepsFrom_grown hownV h9)⟩
    · refine sar_last (t := 57) (by decide) rfl rfl (by kernel_rfl) (fun l a V hp hA ha => ?_) trivial
      obtain ⟨⟨E', hcp⟩, hst, ⟨c9, hc9⟩, hkf⟩ := hA
      have x57 := ev_form a 57
      have x9 := (ev_form a 9).trans (old hp 9 (v := .pointer (some ⟨b9, 0, none⟩)) (by kernel_rfl) e9)
      have hfz := hst.fz
      obtain ⟨va', vc', hv'⟩ := hcp.shape
      rw [hv'] at x57 hcp
      refine ⟨V.setCell ⟨b9, 0, none⟩ (.slice va' (cs ++ [[clL lit]]).length vc'), ?_, TS.store hc9 hst hcp, hkf.trans ((KeepsOthers.setCell _ _ _).from _)⟩
      generalize (cs ++ [[clL lit]]).length = LL at *
      go_simp
  case hf =>
    intro l a V hp hall
    have hE := hp.j.2.1 (hall 6 (by decide))
    exact hQ a V hp.nt hp.df (fun t ht => hp.keep t (dstIn (by kernel_rfl) ht)) hE.1 hE.2
end Go.Proofs.Ytnoklbnacfmpdac
