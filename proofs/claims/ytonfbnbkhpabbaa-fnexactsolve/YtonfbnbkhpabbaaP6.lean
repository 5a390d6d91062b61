/- The program's visit: the region that puts back what was not looked at. -/
import Derived.Test.YtonfbnbkhpabbaaM3
namespace Go.Proofs.Ytonfbnbkhpabbaa
open Go Go.RowKit Gs
set_option linter.unusedVariables false
set_option linter.unusedSimpArgs false
set_option maxRecDepth 100000
theorem anyCellR {wr V : World} {g b o : Nat} {cs : Array Value} {y : Value} (hc : wr.cell? ⟨b, o, none⟩ = some y) (h : Below wr.heap.size wr V ∨ ∃ V0, Below wr.heap.size wr V0 ∧ V = V0.setRow g cs) (hne : b ≠ g) : V.cell? ⟨b, o, none⟩ = some y := by
  rcases h with h | ⟨V0, h1, h2⟩
  · exact cell_later h hc
  · subst h2
    exact (World.cell?_of_block (a := ⟨b, o, none⟩) (setRow_other V0 g b cs hne)).trans (cell_later h1 hc)
def viF (b g ob p nr k c L j ad : Nat) : Nat → Value → Prop
  | 0, v => v = .pointer (some ⟨b, 0, none⟩)
  | 1, v => v = .pointer (some ⟨b, 0, none⟩)
  | 2, v => v = .pointer (some ⟨b, 3, none⟩)
  | 3, v => v = .slice (some ⟨ob, 0, none⟩) nr nr
  | 4, v => v = .int .i64 (p : Int)
  | 5, v => v = .slice (some ⟨g, 0, none⟩) k c
  | 6, v => v = .slice (some ⟨g, 0, none⟩) L c
  | 7, v => v = .int .i64 (j : Int)
  | 8, v => v = .int .i64 ((j + 1 : Nat) : Int)
  | 9, v => v = .slice (some ⟨g, ad, none⟩) (L - (j + 1)) (c - (j + 1))
  | 11, v => v = .pointer (some ⟨ob, p, none⟩)
  | _, _ => True
def viOps : Array Oper := #[{ dst := some 84, op := Op.move (Operand.tmp 0), type := 42, pos := "l13_sat.go:182", after := #[], guard := none }, { dst := some 85, op := Op.nilCheck (Operand.tmp 84), type := 0, pos := "l13_sat.go:182", after := #[{ on := 0, ground := Ground.data }], guard := none }, { dst := some 86, op := Op.fieldAddr 53 (Operand.tmp 85) 3, type := 0, pos := "l13_sat.go:182", after := #[{ on := 1, ground := Ground.data }], guard := none }, { dst := some 87, op := Op.load 51 (Operand.tmp 86), type := 51, pos := "l13_sat.go:182", after := #[{ on := 2, ground := Ground.data }], guard := none }, { dst := some 88, op := Op.move (Operand.tmp 5), type := 3, pos := "l13_sat.go:182", after := #[], guard := none }, { dst := some 89, op := Op.move (Operand.tmp 7), type := 22, pos := "l13_sat.go:182", after := #[], guard := none }, { dst := some 90, op := Op.move (Operand.tmp 6), type := 22, pos := "l13_sat.go:182", after := #[], guard := none }, { dst := some 91, op := Op.move (Operand.tmp 8), type := 3, pos := "l13_sat.go:182", after := #[], guard := none }, { dst := some 92, op := Op.binOp BinOp.add 3 (Operand.tmp 91) (Operand.const (Value.int IntKind.i64 1)) 3, type := 3, pos := "l13_sat.go:182", after := #[{ on := 7, ground := Ground.data }], guard := none }, { dst := some 93, op := Op.slice 22 (Operand.tmp 90) (some (Operand.tmp 92)) none none, type := 22, pos := "l13_sat.go:182", after := #[{ on := 6, ground := Ground.data }, { on := 8, ground := Ground.data }], guard := none }, { dst := some 94, op := Op.call { callee := Callee.builtin Builtin.append, args := #[Operand.tmp 89, Operand.tmp 93], argTypes := #[22, 22] }, type := 22, pos := "l13_sat.go:182", after := #[{ on := 5, ground := Ground.data }, { on := 9, ground := Ground.data }], guard := none }, { dst := some 95, op := Op.indexAddr 51 (Operand.tmp 87) (Operand.tmp 88), type := 0, pos := "l13_sat.go:182", after := #[{ on := 3, ground := Ground.data }, { on := 4, ground := Ground.data }, { on := 0, ground := Ground.phase }, { on := 1, ground := Ground.phase }, { on := 2, ground := Ground.phase }, { on := 3, ground := Ground.phase }, { on := 4, ground := Ground.phase }, { on := 5, ground := Ground.phase }, { on := 6, ground := Ground.phase }, { on := 7, ground := Ground.phase }, { on := 8, ground := Ground.phase }, { on := 9, ground := Ground.phase }, { on := 10, ground := Ground.phase }], guard := none }, { dst := none, op := Op.store 22 (Operand.tmp 95) (Operand.tmp 94), type := 0, pos := "l13_sat.go:182", after := #[{ on := 11, ground := Ground.data }, { on := 10, ground := Ground.data }, { on := 10, ground := Ground.chain }, { on := 0, ground := Ground.phase }, { on := 1, ground := Ground.phase }, { on := 2, ground := Ground.phase }, { on := 3, ground := Ground.phase }, { on := 4, ground := Ground.phase }, { on := 5, ground := Ground.phase }, { on := 6, ground := Ground.phase }, { on := 7, ground := Ground.phase }, { on := 8, ground := Ground.phase }, { on := 9, ground := Ground.phase }, { on := 10, ground := Ground.phase }], guard := none }]
set_option maxHeartbeats 16000000 in
theorem viRow {b g ob p nr k c L j ad : Nat} {news : List Value} {cur oc : Array Value} {wr : World} {Q : Exit → Act → World → Prop} {y : Value} (hp : p < nr) (hjL : j + 1 ≤ L) (hLc : L ≤ c) (hc63 : c ≤ 9223372036854775807) (hkj : k ≤ j + 1) (had : (c = j + 1 ∧ ad = 0) ∨ (c ≠ j + 1 ∧ ad = j + 1)) (hsz : cur.size = c) (HN1 : Hid (news.length = L - (j + 1))) (HN2 : Hid (∀ q u, news[q]? = some u → cur[j + 1 + q]? = some u)) (HN3 : Hid (∀ u ∈ news, u.oneCell' = true)) (HG : Hid (wr.heap[g]? = some (.cells cur 24))) (HC3 : Hid (wr.cell? ⟨b, 3, none⟩ = some (.slice (some ⟨ob, 0, none⟩) nr nr))) (HCH : Hid (wr.cell? ⟨ob, p, none⟩ = some y)) (HOB : Hid (wr.heap[ob]? = some (.cells oc 22))) (HNB : Hid (b ≠ g ∧ ob ≠ g))
    (a0 : Act) (ha0 : a0.tmps.size = 104) (e0 : a0.eval (.tmp 0) = .pointer (some ⟨b, 0, none⟩)) (e5 : a0.eval (.tmp 5) = .int .i64 (p : Int)) (e6 : a0.eval (.tmp 6) = .slice (some ⟨g, 0, none⟩) L c) (e7 : a0.eval (.tmp 7) = .slice (some ⟨g, 0, none⟩) k c) (e8 : a0.eval (.tmp 8) = .int .i64 (j : Int))
    (hQ : ∀ a V V0, a.tmps.size = a0.tmps.size → a.defers = a0.defers → (∀ t, t ∉ [84, 85, 86, 87, 88, 89, 90, 91, 92, 93, 94, 95] → a.eval (.tmp t) = a0.eval (.tmp t)) → Below wr.heap.size wr V0 → V = (V0.setRow g (cur.toList.take k ++ news ++ cur.toList.drop (k + news.length)).toArray).setCell ⟨ob, p, none⟩ (.slice (some ⟨g, 0, none⟩) (k + (L - (j + 1))) c) → Q .normal a V) :
    (Code.region 19 viOps true).wp Try.prog Q a0 wr := by
  obtain ⟨i0, hi, hz0, hz1, hz2⟩ := info_parts info28
  have HI := hide (And.intro hi (And.intro hz0 (And.intro hz1 hz2)))
  have p1 : (0 : Int) ≤ (p : Int) := by omega
  have p2 : (p : Int) < (nr : Int) := by omega
  clear hi hz0 hz1 hz2
  refine wp_plan (GAr (viF b g ob p nr k c L j ad) (fun _ _ _ => True) 10 12 (fun v V => v = .slice (some ⟨g, 0, none⟩) (k + (L - (j + 1))) c ∧ ∃ V0, Below wr.heap.size wr V0 ∧ V = V0.setRow g (cur.toList.take k ++ news ++ cur.toList.drop (k + news.length)).toArray)) (JAr wr 10 12 (fun v V => v = .slice (some ⟨g, 0, none⟩) (k + (L - (j + 1))) c ∧ ∃ V0, Below wr.heap.size wr V0 ∧ V = V0.setRow g (cur.toList.take k ++ news ++ cur.toList.drop (k + news.length)).toArray) (fun V' => ∃ V v, (fun v V => v = .slice (some ⟨g, 0, none⟩) (k + (L - (j + 1))) c ∧ ∃ V0, Below wr.heap.size wr V0 ∧ V = V0.setRow g (cur.toList.take k ++ news ++ cur.toList.drop (k + news.length)).toArray) v V ∧ V' = V.setCell ⟨ob, p, none⟩ v)) (by kernel_rfl) 104 ha0 (by kernel_rfl) ?hj ?hs ?hf
  case hj => exact JAr.start (bdr (brf wr))
  case hs =>
    refine ⟨?_, ?_, ?_, ?_, ?_, ?_, ?_, ?_, ?_, ?_, ?_, ?_, ?_, trivial⟩
    · exact sar_float (by decide) (by decide) (fun l a w hp hu => (und hp (k := 0) (j := 12) (by kernel_rfl) hu)) rfl (fun l a V hp ha => ⟨.pointer (some ⟨b, 0, none⟩), by
        have x0 := (ev_form a 0).trans (old hp 0 (v := .pointer (some ⟨b, 0, none⟩)) (by kernel_rfl) e0)
        go_simp, rfl, trivial⟩)
    · exact sar_float (by decide) (by decide) (fun l a w hp hu => (und hp (k := 1) (j := 12) (by kernel_rfl) hu)) rfl (fun l a V hp ha => ⟨.pointer (some ⟨b, 0, none⟩), by
        have x84 := (ev_form a 84).trans (show a.eval (.tmp 84) = .pointer (some ⟨b, 0, none⟩) from (knR hp ha 84 0 (by kernel_rfl) (by kernel_rfl)).1)
        go_simp, rfl, trivial⟩)
    · exact sar_float (by decide) (by decide) (fun l a w hp hu => (und hp (k := 2) (j := 12) (by kernel_rfl) hu)) rfl (fun l a V hp ha => ⟨.pointer (some ⟨b, 3, none⟩), by
        have x85 := (ev_form a 85).trans (show a.eval (.tmp 85) = .pointer (some ⟨b, 0, none⟩) from (knR hp ha 85 1 (by kernel_rfl) (by kernel_rfl)).1)
        go_simp, rfl, trivial⟩)
    · exact sar_floatR (t := 94) (by decide) (by decide) rfl (fun l a w hp hu => (und hp (k := 3) (j := 12) (by kernel_rfl) hu)) rfl (fun l a V hp hV ha => ⟨.slice (some ⟨ob, 0, none⟩) nr nr, by
        have x86 := (ev_form a 86).trans (show a.eval (.tmp 86) = .pointer (some ⟨b, 3, none⟩) from (knR hp ha 86 2 (by kernel_rfl) (by kernel_rfl)).1)
        have mq := anyCellR (unhide HC3) (hV.imp id (fun ⟨v, _, V0, a, b⟩ => ⟨V0, a, b⟩)) (unhide HNB).1
        go_simp, rfl, trivial⟩)
    · exact sar_float (by decide) (by decide) (fun l a w hp hu => (und hp (k := 4) (j := 12) (by kernel_rfl) hu)) rfl (fun l a V hp ha => ⟨.int .i64 (p : Int), by
        have x5 := (ev_form a 5).trans (old hp 5 (v := .int .i64 (p : Int)) (by kernel_rfl) e5)
        go_simp, rfl, trivial⟩)
    · exact sar_val (by decide) (by decide) (fun l a w hp hu => ⟨(und hp (k := 5) (j := 10) (by kernel_rfl) hu), (und hp (k := 5) (j := 12) (by kernel_rfl) hu)⟩) rfl (fun l a V hp h1 hB ha => ⟨.slice (some ⟨g, 0, none⟩) k c, by
        have x7 := (ev_form a 7).trans (old hp 7 (v := .slice (some ⟨g, 0, none⟩) k c) (by kernel_rfl) e7)
        go_simp, rfl, trivial⟩)
    · exact sar_val (by decide) (by decide) (fun l a w hp hu => ⟨(und hp (k := 9) (j := 10) (by kernel_rfl) (und hp (k := 6) (j := 9) (by kernel_rfl) hu)), (und hp (k := 6) (j := 12) (by kernel_rfl) hu)⟩) rfl (fun l a V hp h1 hB ha => ⟨.slice (some ⟨g, 0, none⟩) L c, by
        have x6 := (ev_form a 6).trans (old hp 6 (v := .slice (some ⟨g, 0, none⟩) L c) (by kernel_rfl) e6)
        go_simp, rfl, trivial⟩)
    · exact sar_val (by decide) (by decide) (fun l a w hp hu => ⟨(und hp (k := 9) (j := 10) (by kernel_rfl) (und hp (k := 8) (j := 9) (by kernel_rfl) (und hp (k := 7) (j := 8) (by kernel_rfl) hu))), (und hp (k := 7) (j := 12) (by kernel_rfl) hu)⟩) rfl (fun l a V hp h1 hB ha => ⟨.int .i64 (j : Int), by
        have x8 := (ev_form a 8).trans (old hp 8 (v := .int .i64 (j : Int)) (by kernel_rfl) e8)
        go_simp, rfl, trivial⟩)
    · exact sar_val (by decide) (by decide) (fun l a w hp hu => ⟨(und hp (k := 9) (j := 10) (by kernel_rfl) (und hp (k := 8) (j := 9) (by kernel_rfl) hu)), (und hp (k := 8) (j := 12) (by kernel_rfl) hu)⟩) rfl (fun l a V hp h1 hB ha => ⟨.int .i64 ((j + 1 : Nat) : Int), by
        have x91 := (ev_form a 91).trans (show a.eval (.tmp 91) = .int .i64 (j : Int) from (knR hp ha 91 7 (by kernel_rfl) (by kernel_rfl)).1)
        have j3 : ((j + 1 : Nat) : Int) = (j : Int) + 1 := by omega
        rw [j3]
        have j4 : (j : Int) + 1 ≤ 9223372036854775807 := by omega
        have j5 : (0 : Int) ≤ (j : Int) := by omega
        go_simp; exact IntWalk.i64_in _ ⟨by omega, by omega⟩, rfl, trivial⟩)
    · exact sar_val (by decide) (by decide) (fun l a w hp hu => ⟨(und hp (k := 9) (j := 10) (by kernel_rfl) hu), (und hp (k := 9) (j := 12) (by kernel_rfl) hu)⟩) rfl (fun l a V hp h1 hB ha => ⟨.slice (some ⟨g, ad, none⟩) (L - (j + 1)) (c - (j + 1)), by
        have x90 := (ev_form a 90).trans (show a.eval (.tmp 90) = .slice (some ⟨g, 0, none⟩) L c from (knR hp ha 90 6 (by kernel_rfl) (by kernel_rfl)).1)
        have x92 := (ev_form a 92).trans (show a.eval (.tmp 92) = .int .i64 ((j + 1 : Nat) : Int) from (knR hp ha 92 8 (by kernel_rfl) (by kernel_rfl)).1)
        have q1 : (0 : Int) ≤ ((j + 1 : Nat) : Int) := by omega
        have q2 : ((j + 1 : Nat) : Int) ≤ (L : Int) := by omega
        have q3 : (L : Int) ≤ (c : Int) := by omega
        clear e8 ha hp hQ HN2 hkj
        generalize j + 1 = J at *
        rcases had with ⟨rfl, rfl⟩ | ⟨hne, rfl⟩
        · go_simp
        · go_simp, rfl, trivial⟩)
    · refine sar_app (by decide) (fun l a w hp hu => (und hp (k := 10) (j := 12) (by kernel_rfl) hu)) rfl (fun l a V hp h1 hB ha => ?_)
      have hv1 : a.eval (.tmp 89) = .slice (some ⟨g, 0, none⟩) k c := (knR hp ha 89 5 (by kernel_rfl) (by kernel_rfl)).1
      have hv2 : a.eval (.tmp 93) = .slice (some ⟨g, ad, none⟩) (L - (j + 1)) (c - (j + 1)) := (knR hp ha 93 9 (by kernel_rfl) (by kernel_rfl)).1
      have hgV : V.heap[g]? = some (.cells cur 24) := (hB.block g (heap_lt (unhide HG))).trans (unhide HG)
      have hr := run_append_room (P := Try.prog) V 22 22 24 i0 Try.underlying22 (unhide HI).1 g k c cur hgV ⟨g, ad, none⟩ (L - (j + 1)) (c - (j + 1)) news (by rw [(unhide HI).2.2.1, Nat.mul_one]; exact unhide HN1) (by
        intro q u hq
        have h2 := unhide HN2 q u hq
        have h3 : q < news.length := (List.getElem?_eq_some_iff.1 hq).1
        have h4 := unhide HN1
        rcases had with ⟨e1, e2⟩ | ⟨e1, e2⟩
        · omega
        · subst e2
          rw [Addr.add_lit]
          simp only [World.cell?, hgV]
          exact h2) (unhide HN3) (by omega) (by rw [(unhide HI).2.2.1, Nat.mul_one, unhide HN1, hsz]; omega)
      rw [(unhide HI).2.2.1, Nat.mul_one] at hr
      refine ⟨_, _, ?_, ⟨rfl, V, hB, rfl⟩, trivial⟩
      unfold execOp
      simp only [resolve, invoke, builtin, Sem.run_bind, Sem.run_pure, Result.andThen_ok, List.map_toArray, List.map_cons, List.map_nil, hv1, hv2, hr]
    · exact sar_float (by decide) (by decide) (fun l a w hp hu => (und hp (k := 11) (j := 12) (by kernel_rfl) hu)) rfl (fun l a V hp ha => ⟨.pointer (some ⟨ob, p, none⟩), by
        have x87 := (ev_form a 87).trans (show a.eval (.tmp 87) = .slice (some ⟨ob, 0, none⟩) nr nr from (knR hp ha 87 3 (by kernel_rfl) (by kernel_rfl)).1)
        have x88 := (ev_form a 88).trans (show a.eval (.tmp 88) = .int .i64 (p : Int) from (knR hp ha 88 4 (by kernel_rfl) (by kernel_rfl)).1)
        go_simp, rfl, trivial⟩)
    · refine sar_last (t := 94) (by decide) rfl rfl (by kernel_rfl) (fun l a V hp hA ha => ?_) trivial
      have x95 := (ev_form a 95).trans (show a.eval (.tmp 95) = .pointer (some ⟨ob, p, none⟩) from (knR hp ha 95 11 (by kernel_rfl) (by kernel_rfl)).1)
      have x94 := ev_form a 94
      obtain ⟨h1, V0, hV0, hV⟩ := id hA
      have m1 := anyCellR (unhide HCH) (.inr ⟨V0, hV0, hV⟩) (unhide HNB).2
      have m2 : V.frozen? ⟨ob, p, none⟩ = false := by
        rw [hV]
        simp [World.frozen?, setRow_other V0 g ob _ (unhide HNB).2, (hV0.block ob (heap_lt (unhide HOB))), unhide HOB]
      generalize a.eval (.tmp 94) = tv' at *
      subst h1
      exact ⟨V.setCell ⟨ob, p, none⟩ (.slice (some ⟨g, 0, none⟩) (k + (L - (j + 1))) c), by clear hA hV0 hV; go_simp, ⟨V, _, hA, rfl⟩⟩
  case hf =>
    intro l a V hp hall
    obtain ⟨V1, v, ⟨h1, V0, hV0, hV1⟩, hV⟩ := hp.j.2.1 (hall 12 (by decide))
    exact hQ a V V0 hp.nt hp.df (fun t ht => hp.keep t (dstIn (by kernel_rfl) ht)) hV0 (by rw [hV, hV1, h1])
end Go.Proofs.Ytonfbnbkhpabbaa
namespace Go.Proofs.Ytonfbnbkhpabbaa
open Go Go.RowKit Gs
set_option linter.unusedVariables false
set_option linter.unusedSimpArgs false
set_option maxRecDepth 100000
structure VI (ok : Prop) (B n : Nat) (w W : World) (s : FS) (Cl : List (List Int)) (A t0 : List Int) (tb : List (List Int)) (fp : List Int) (gone : Int) (g c : Nat) (V : List Nat) (j : Nat) (K : List Nat) (r : FS) (wr : World) : Prop where
  fm : FM B n (some (plN gone)) wr r
  bl : Below B w wr
  sz : W.heap.size ≤ wr.heap.size
  bw : B ≤ wr.heap.size
  fr : FR s r
  svp : (r.sv (plN gone)).ownBlock = some g
  ls : LS ok n Cl A t0 tb fp r.t r.vs r.ids r.cl r.ws
  wsg : r.ws gone = K ++ V.drop j
  rv : RV s.ln s.cap r.xc c V K j
  gl : Lit n gone
  gt : -gone ∈ r.t
  nn : n ≤ 2048
def VQ (ok : Prop) (B n : Nat) (w W : World) (s : FS) (Cl : List (List Int)) (A t0 : List Int) (tb : List (List Int)) (fp : List Int) (gone : Int) (e : Ending) (w' : World) : Prop :=
  Below B w w' ∧ W.heap.size ≤ w'.heap.size ∧ ∃ s', FM B n none w' s' ∧ FR s s' ∧ ((e = .returned (.bool true) ∧ LS ok n Cl A t0 tb (fp ++ [-gone]) s'.t s'.vs s'.ids s'.cl s'.ws) ∨ (e = .returned (.bool false) ∧ (ok → Con Cl A) ∧ LS ok n Cl A t0 tb fp s'.t s'.vs s'.ids s'.cl s'.ws))
section
variable {ok : Prop} {B n : Nat} {w W : World} {s : FS} {Cl : List (List Int)} {A t0 : List Int} {tb : List (List Int)} {fp : List Int} {gone : Int} {g c : Nat} {V : List Nat} {j : Nat} {K : List Nat} {r : FS} {wr : World}
theorem VI.row (h : VI ok B n w W s Cl A t0 tb fp gone g c V j K r wr) : wr.heap[g]? = some (.cells r.xc 24) := h.fm.hx _ g rfl (plN_lt h.gl) h.svp
theorem VI.value (h : VI ok B n w W s Cl A t0 tb fp gone g c V j K r wr) {l : Int} (hl : Lit n l) : Calls Try.prog 50 #[.pointer (some ⟨s.b, 0, none⟩), .int .i64 l] wr fun e w' => e = .returned (.int .i64 (val r.vs l)) ∧ w' = wr := by
  have := iValue h.fm h.ls.vr hl h.nn
  rw [h.fr.b] at this
  exact this
theorem VI.at (h : VI ok B n w W s Cl A t0 tb fp gone g c V j K r wr) {i : Nat} (hi : V[j]? = some i) : r.ws gone = K ++ i :: V.drop (j + 1) := by
  rw [h.wsg]
  congr 1
  obtain ⟨hj, e⟩ := List.getElem?_eq_some_iff.1 hi
  rw [List.drop_eq_getElem_cons hj, e]
theorem VI.head (h : VI ok B n w W s Cl A t0 tb fp gone g c V j K r wr) {i : Nat} (hi : V[j]? = some i) : wr.cell? ⟨g, j, none⟩ = some (.slice (some ⟨i, 0, none⟩) (r.cl i).length (s.cap i)) := by
  have h1 := h.rv.rs j i (Nat.le_refl _) hi
  have h2 := (h.fm.hc i (h.ls.look (h.at hi)).1).1
  rw [h.fr.ln] at h2
  simp only [World.cell?, h.row]
  rw [← h2]
  exact h1
theorem VI.swap (h : VI ok B n w W s Cl A t0 tb fp gone g c V j K r wr) {i : Nat} (hi : V[j]? = some i) (h0 : w0 (r.cl i) = gone) (hk : KP r.t r.cl gone K) : VI ok B n w W s Cl A t0 tb fp gone g c V j K { r with cl := upC r.cl i (sw (r.cl i)) } ((wr.setCell ⟨i, 0, none⟩ (.int .i64 (w1 (r.cl i)))).setCell ⟨i, 1, none⟩ (.int .i64 gone)) ∧ KP r.t (upC r.cl i (sw (r.cl i))) gone K ∧ w1 (upC r.cl i (sw (r.cl i)) i) = gone ∧ w0 (upC r.cl i (sw (r.cl i)) i) = w1 (r.cl i) := by
  obtain ⟨hm, hnK, hnR, _⟩ := h.ls.look (h.at hi)
  obtain ⟨_, e0, e1⟩ := sw_spec (h.ls.wt.ok i hm).1
  have hB : B ≤ i := h.fm.lo.2.2.2.2 i hm
  have h2 := h.fm.two hm h.ls.nd 0 1 (w1 (r.cl i)) gone
  have e : ((r.cl i).set 0 (w1 (r.cl i))).set 1 gone = sw (r.cl i) := by unfold sw; rw [h0]
  rw [e] at h2
  refine ⟨⟨h2, (h.bl.setCell (p := ⟨i, 0, none⟩) hB _).setCell (p := ⟨i, 1, none⟩) hB _, by simpa using h.sz, by simpa using h.bw, h.fr.same, h.svp, h.ls.swap hm, h.wsg, h.rv, h.gl, h.gt, h.nn⟩, hk.other hnK _, ?_, ?_⟩
  · rw [upC_same, e1, h0]
  · rw [upC_same, e0]
theorem VI.watch (h : VI ok B n w W s Cl A t0 tb fp gone g c V j K r wr) (hk : KP r.t r.cl gone K) {i k : Nat} {z : Int} (hi : V[j]? = some i) (h1 : w1 (r.cl i) = gone) (h2 : 2 ≤ k) (hz : (r.cl i)[k]? = some z) (hn : -z ∉ r.t) : Calls Try.prog 44 #[.pointer (some ⟨s.b, 0, none⟩), .int .i64 z, .slice (some ⟨i, 0, none⟩) (r.cl i).length (s.cap i)] ((wr.setCell ⟨i, 1, none⟩ (.int .i64 z)).setCell ⟨i, k, none⟩ (.int .i64 gone)) fun e w' => e = .returned (.tuple #[]) ∧ ∃ r', VI ok B n w W s Cl A t0 tb fp gone g c V (j + 1) K r' w' ∧ KP r'.t r'.cl gone K := by
  have hat := h.at hi
  obtain ⟨hm, hnK, hnR, _⟩ := h.ls.look hat
  have hB : B ≤ i := h.fm.lo.2.2.2.2 i hm
  obtain ⟨hzg, hls⟩ := h.ls.move hm h2 hz h1 hat h.gt hn
  have hzl : Lit n z := (h.ls.wt.ok i hm).2.2 z (List.mem_of_getElem? hz)
  have f2 := (h.fm.two hm h.ls.nd 1 k z gone).names h.gl (K ++ V.drop (j + 1))
  have hpn : plN gone ≠ plN z := fun e => hzg (plN_inj e).symm
  have hbl := (h.bl.setCell (p := ⟨i, 1, none⟩) hB (.int .i64 z)).setCell (p := ⟨i, k, none⟩) hB (.int .i64 gone)
  have hsz : ((wr.setCell ⟨i, 1, none⟩ (.int .i64 z)).setCell ⟨i, k, none⟩ (.int .i64 gone)).heap.size = wr.heap.size := by simp
  have hlen : (upW r.ws gone (K ++ V.drop (j + 1)) z).length ≤ 1048576 := by rw [upW_other hzg]; exact h.ls.row z
  have hc := iWatch f2 hbl (by rw [hsz]; exact h.bw) hzl (by intro e; injection e with e; exact hpn e) i hlen h.nn
  have hln := (h.fm.hc i hm).1
  have hhd : hd r.ln r.cap i = .slice (some ⟨i, 0, none⟩) (r.cl i).length (s.cap i) := by unfold hd; rw [hln, h.fr.cap]
  rw [← h.fr.b, ← hhd]
  refine hc.mono ?_
  rintro e w' ⟨rfl, hb', hs', v', hf'⟩
  rw [hsz] at hs'
  refine ⟨rfl, _, ⟨hf', hb', Nat.le_trans h.sz hs', Nat.le_trans h.bw hs', h.fr.same, ?_, ?_, ?_, h.rv.skip, h.gl, h.gt, h.nn⟩, hk.other hnK _⟩
  · show (upV r.sv (plN z) v' (plN gone)).ownBlock = some g
    unfold upV
    rw [if_neg hpn]
    exact h.svp
  · have e3 : upW (upW r.ws gone (K ++ V.drop (j + 1))) z (upW r.ws gone (K ++ V.drop (j + 1)) z ++ [i]) = upW (upW r.ws gone (K ++ V.drop (j + 1))) z (r.ws z ++ [i]) := by rw [upW_other hzg]
    show LS ok n Cl A t0 tb fp r.t r.vs r.ids (upC r.cl i (((r.cl i).set 1 z).set k gone)) (upW (upW r.ws gone (K ++ V.drop (j + 1))) z (upW r.ws gone (K ++ V.drop (j + 1)) z ++ [i]))
    rw [e3]
    exact hls
  · show upW (upW r.ws gone (K ++ V.drop (j + 1))) z (upW r.ws gone (K ++ V.drop (j + 1)) z ++ [i]) gone = _
    rw [upW_other (Ne.symm hzg), upW_same]
/-- One is kept. -/
theorem VI.keep (h : VI ok B n w W s Cl A t0 tb fp gone g c V j K r wr) {i : Nat} (hi : V[j]? = some i) (o : Obj) : VI ok B n w W s Cl A t0 tb fp gone g c V (j + 1) (K ++ [i]) { r with xc := (r.xc.toList.take K.length ++ [hd s.ln s.cap i] ++ r.xc.toList.drop (K.length + 1)).toArray } ((wr.alloc o).setRow g (r.xc.toList.take K.length ++ [hd s.ln s.cap i] ++ r.xc.toList.drop (K.length + 1)).toArray) := by
  have hB : B ≤ g := (h.fm.d5 _ g (plN_lt h.gl) h.svp).1
  have f1 := h.fm.later (bal (brf wr) o)
  have hsz : ((wr.alloc o).setRow g (r.xc.toList.take K.length ++ [hd s.ln s.cap i] ++ r.xc.toList.drop (K.length + 1)).toArray).heap.size = wr.heap.size + 1 := by
    unfold World.setRow; simp
  have h1 := h.sz
  have h2 := h.bw
  refine ⟨f1.turn (plN_lt h.gl) h.svp, ?_, by omega, by omega, h.fr.same, h.svp, h.ls, ?_, h.rv.keep hi, h.gl, h.gt, h.nn⟩
  · refine (h.bl.alloc h.bw o).trans ⟨rfl, rfl, rfl, by unfold World.setRow; simp, fun k hk => ?_⟩
    exact setRow_other _ _ _ _ (by omega)
  · show r.ws gone = _
    rw [h.at hi]; simp
/-- What follows is assumed. -/
theorem VI.assume {i : Nat} (h : VI ok B n w W s Cl A t0 tb fp gone g c V (j + 1) (K ++ [i]) r wr) (hk : KP r.t r.cl gone K) (h1 : w1 (r.cl i) = gone) (hm : i ∈ r.ids) (ht : w0 (r.cl i) ∈ r.t ∨ (ok → Der Cl A (w0 (r.cl i)) ∧ (-(w0 (r.cl i)) ∈ r.t → Con Cl A))) : Calls Try.prog 43 #[.pointer (some ⟨s.b, 0, none⟩), .int .i64 (w0 (r.cl i))] wr fun e w' => (e = .returned (.bool true) ∧ ∃ r', VI ok B n w W s Cl A t0 tb fp gone g c V (j + 1) (K ++ [i]) r' w' ∧ KP r'.t r'.cl gone (K ++ [i])) ∨ (e = .returned (.bool false) ∧ (ok → Con Cl A) ∧ w' = wr) := by
  obtain ⟨k1, k2, k3⟩ := h.ls.wt.ok i hm
  have hl : Lit n (w0 (r.cl i)) := k3 _ (mem_w0 k1)
  have hc := iAssume h.fm h.bl h.bw h.ls.vr h.ls.tr hl h.nn
  rw [← h.fr.b]
  refine hc.mono ?_
  rintro e w' (⟨hin, rfl, rfl⟩ | ⟨hin, rfl, rfl⟩ | ⟨ho, rfl, hb', hs', v', hf'⟩)
  · exact .inl ⟨rfl, r, h, hk.snoc h1 hin⟩
  · rcases ht with h2 | h2
    · exact absurd hin (h.ls.tr.not h2)
    · exact .inr ⟨rfl, fun o => (h2 o).2 hin, rfl⟩
  · rcases ht with h2 | h2
    · exact absurd h2 ho.1
    · refine .inl ⟨rfl, _, ⟨hf', hb', Nat.le_trans h.sz hs', Nat.le_trans h.bw hs', h.fr.push, h.svp, h.ls.push hl ho (fun o => (h2 o).1), h.wsg, h.rv, h.gl, List.mem_append_left _ h.gt, h.nn⟩, hk.more.snoc h1 (by simp)⟩
/-- All were looked at. -/
theorem VI.end (h : VI ok B n w W s Cl A t0 tb fp gone g c V V.length K r wr) (hk : KP r.t r.cl gone K) : VQ ok B n w W s Cl A t0 tb fp gone (.returned (.bool true)) (wr.setCell ⟨s.ob, plN gone, none⟩ (.slice (some ⟨g, 0, none⟩) K.length c)) := by
  have hB : B ≤ g := (h.fm.d5 _ g (plN_lt h.gl) h.svp).1
  have hw : r.ws gone = K := by rw [h.wsg]; simp
  have hown := h.rv.own (Nat.le_refl _) h.row hB
  have hf := h.fm.shut (v' := .slice (some ⟨g, 0, none⟩) K.length c) h.gl (by rw [hw, h.fr.ln, h.fr.cap]; exact hown) (by rw [h.svp]; rfl)
  rw [← h.fr.ob]
  have hob : B ≤ r.ob := h.fm.lo.2.2.1
  refine ⟨h.bl.setCell (p := ⟨r.ob, plN gone, none⟩) hob _, by simpa using h.sz, _, hf, h.fr.same, .inl ⟨rfl, ?_⟩⟩
  exact h.ls.done h.gt (by rw [hw]; exact hk)
/-- The rest was not looked at. -/
theorem VI.stop (h : VI ok B n w W s Cl A t0 tb fp gone g c V j K r wr) (hj : j ≤ V.length) (hcon : ok → Con Cl A) {V0 : World} (hV0 : Below wr.heap.size wr V0) : VQ ok B n w W s Cl A t0 tb fp gone (.returned (.bool false)) ((V0.setRow g (r.xc.toList.take K.length ++ (V.drop j).map (hd s.ln s.cap) ++ r.xc.toList.drop (K.length + ((V.drop j).map (hd s.ln s.cap)).length)).toArray).setCell ⟨s.ob, plN gone, none⟩ (.slice (some ⟨g, 0, none⟩) (K.length + (V.length - j)) c)) := by
  have hB : B ≤ g := (h.fm.d5 _ g (plN_lt h.gl) h.svp).1
  have f1 := (h.fm.later hV0).turn (cs := (r.xc.toList.take K.length ++ (V.drop j).map (hd s.ln s.cap) ++ r.xc.toList.drop (K.length + ((V.drop j).map (hd s.ln s.cap)).length)).toArray) (plN_lt h.gl) h.svp
  have hlen : (K ++ V.drop j).length = K.length + (V.length - j) := by simp
  have hown := (h.rv.rest hj).own (W := V0.setRow g (r.xc.toList.take K.length ++ (V.drop j).map (hd s.ln s.cap) ++ r.xc.toList.drop (K.length + ((V.drop j).map (hd s.ln s.cap)).length)).toArray) (Nat.le_refl _) (f1.hx _ g rfl (plN_lt h.gl) h.svp) hB
  rw [hlen] at hown
  have hf := f1.shut (v' := .slice (some ⟨g, 0, none⟩) (K.length + (V.length - j)) c) h.gl (by
    show World.ownsRow _ B 24 1 _ (r.ws gone).length ((r.ws gone).map (hd r.ln r.cap))
    rw [h.wsg, hlen, h.fr.ln, h.fr.cap]; exact hown) (by
    show _ = (r.sv (plN gone)).ownBlock
    rw [h.svp]; rfl)
  rw [← h.fr.ob]
  have hob : B ≤ r.ob := h.fm.lo.2.2.1
  have hs0 := hV0.size
  have hs1 := h.sz
  have b1 : Below B w (V0.setRow g (r.xc.toList.take K.length ++ (V.drop j).map (hd s.ln s.cap) ++ r.xc.toList.drop (K.length + ((V.drop j).map (hd s.ln s.cap)).length)).toArray) :=
    (h.bl.trans (hV0.mono h.bw)).trans ⟨rfl, rfl, rfl, by unfold World.setRow; simp, fun k hk => setRow_other _ _ _ _ (by omega)⟩
  refine ⟨b1.setCell (p := ⟨r.ob, plN gone, none⟩) hob _, ?_, _, hf, h.fr.same, .inr ⟨rfl, hcon, h.ls⟩⟩
  have : ((V0.setRow g (r.xc.toList.take K.length ++ (V.drop j).map (hd s.ln s.cap) ++ r.xc.toList.drop (K.length + ((V.drop j).map (hd s.ln s.cap)).length)).toArray).setCell ⟨r.ob, plN gone, none⟩ (.slice (some ⟨g, 0, none⟩) (K.length + (V.length - j)) c)).heap.size = V0.heap.size := by
    unfold World.setRow; simp
  omega
end
end Go.Proofs.Ytonfbnbkhpabbaa
