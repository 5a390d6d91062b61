/- The law of FlatOK: and what was handed in reads as it did. -/
import Derived.Test.YtgkfhaahcedbpaaGSFO
import Derived.Test.YtgkfhaahcedbpaaP14
import Derived.Test.YtgkfhaahcedbpaaDS
import Derived.Test.YtgkfhaahcedbpaaDT
import Derived.Test.YtgkfhaahcedbpaaDE
import Derived.Test.YtgkfhaahcedbpaaGDD
import Derived.Test.YtgkfhaahcedbpaaGI1
import Derived.ChangeArms
import Derived.ChangeSame
import Derived.Deep.Strs
namespace Go.Proofs.Ytgkfhaahcedbpaa
open Go Go.RowKit Gs
set_option linter.unusedVariables false
set_option linter.unusedSimpArgs false
set_option maxRecDepth 100000
theorem RFlatN.later {d : Nat} {n : Flat} {u : List Value} {w W : World} {B : Nat} (h : RFlatN d w B n u) (hb : Below w.heap.size w W) : RFlatN d W B n u := RFlatN.keeps d _ _ _ _ _ (later_cells hb B) h
theorem RFlatN.any {d : Nat} {n : Flat} {u : List Value} {w : World} {B : Nat} (h : RFlatN d w B n u) : RFlatN d w 0 n u := RFlatN.lowers d _ _ _ _ _ (Nat.zero_le _) h
/-- A world behind one that boxed two cells. -/
def B2 (t : TypeId) (w : World) (y0 y1 : Value) (V : World) : Prop := Below (w.alloc (.cells #[y0, y1] t)).heap.size (w.alloc (.cells #[y0, y1] t)) V
theorem B2.get {t : TypeId} {w : World} {y0 y1 : Value} {V : World} (h : B2 t w y0 y1 V) : V.cell? ⟨w.heap.size, 0, none⟩ = some y0 ∧ V.cell? ⟨w.heap.size, 1, none⟩ = some y1 :=
  ⟨cell_later h (by rw [World.cell?_alloc_new]; rfl), cell_later h (by rw [World.cell?_alloc_new]; rfl)⟩
theorem B2.then {t : TypeId} {w : World} {y0 y1 : Value} {V U : World} (h : B2 t w y0 y1 V) (hb : Below V.heap.size V U) : B2 t w y0 y1 U := btr h hb
theorem B2.below {t : TypeId} {w : World} {y0 y1 : Value} {V : World} (h : B2 t w y0 y1 V) : Below w.heap.size w V := btr (bal (brf w) _) h
def FL10 (d : Nat) (v24 : Flat) (e1 e2 : Value) : Nat → World → Value → Prop
  | 0, W, v => v = e1
  | 1, W, v => v = e2
  | 2, W, v => ∃ u, v = .agg u ∧ RFlatN d W 0 v24 u.toList
  | 3, W, v => v = .bool true
  | 4, W, v => v = .bool false
  | _, _, _ => True
theorem FL10_lasts (d : Nat) (v24 : Flat) (e1 e2 : Value) : Lasts (FL10 d v24 e1 e2) := by
  intro k w w' v hb h
  match k, h with
  | 0, h => exact h
  | 1, h => exact h
  | 2, h => obtain ⟨u, e, hr⟩ := h; exact ⟨u, e, hr.later hb⟩
  | 3, h => exact h
  | 4, h => exact h
  | _ + 5, _ => trivial
set_option maxHeartbeats 16000000 in
theorem lFlatOK (d : Nat) (x : Flat) (u : List Value) (w : World) (hr : RFlatN d w 0 x u) :
    Calls Try.prog 3 #[.agg u.toArray] w fun e w' => e = .returned (.bool true) ∧ Below w.heap.size w w' := by
  have SZ := hide (fun (W : World) (hb : Below w.heap.size w W) => szFlat_of d x u W 1048576 (Nat.le_refl _) (hr.later hb))
  have TN := hide (fun (hl : szFlatN d x ≤ 1048576) (W : World) (hb : Below w.heap.size w W) => toFlat_of d x u W hl (hr.later hb))
  obtain ⟨v0, v1, rfl, h0, h1⟩ := hr
  obtain ⟨a0, c0, e0⟩ := h0.slice
  obtain ⟨a1, c1, e1⟩ := h1.slice
  subst e0 e1
  clear h0 h1
  show Calls Try.prog 3 #[.agg #[.slice a0 x.signals.length c0, .slice a1 x.procs.length c1]] w _
  change Hid (∀ (W : World), Below w.heap.size w W → Calls Try.prog 4 #[.agg #[.slice a0 x.signals.length c0, .slice a1 x.procs.length c1], .int .i64 (1048576 : Int)] W _) at SZ
  change Hid (∀ (hl : szFlatN d x ≤ 1048576) (W : World), Below w.heap.size w W → Calls Try.prog 6 #[.agg #[.slice a0 x.signals.length c0, .slice a1 x.procs.length c1]] W _) at TN
  by_cases hs : szFlatN d x ≤ 1048576
  · have hsz := szR_le hs
    have hneg : decide ((((1048576 - szFlatN d x : Nat) : Int)) < 0) = false := decide_eq_false (by omega)
    have TN' := hide (fun W hb => unhide TN hs W hb)
    rw [hsz] at SZ
    clear TN hsz
    generalize ((1048576 - szFlatN d x : Nat) : Int) = left at *
    go_enter Try.func3, Try.ntmps3
    go_wp2_with fail
    refine (unhide SZ _ (bal (brf w) _)).mono ?_
    rintro e W1 ⟨rfl, hb1⟩
    have HX1 : Hid (B2 25 w (.slice a0 x.signals.length c0) (.slice a1 x.procs.length c1) W1) := hide hb1
    clear hb1
    obtain ⟨q0, q1⟩ := (unhide HX1).get
    go_wp2_with fail
    refine (unhide TN' _ (unhide HX1).below).mono ?_
    rintro e W2 ⟨⟨u1, rfl, hr1⟩, hb2, _⟩
    have HX2 := hide ((unhide HX1).then hb2)
    have HR1 := hide hr1.any
    clear hb2 hr1 q0 q1
    obtain ⟨q0, q1⟩ := (unhide HX2).get
    go_wp2_with fail
    refine (sFlatOK d x u1 _ (unhide HR1)).mono ?_
    rintro e W3 ⟨rfl, hb3⟩
    have HX3 := hide ((unhide HX2).then hb3)
    clear hb3 q0 q1
    obtain ⟨q0, q1⟩ := (unhide HX3).get
    go_wp2_with fail
    refine (unhide TN' _ (unhide HX3).below).mono ?_
    rintro e W4 ⟨⟨u2, rfl, hr2⟩, hb4, _⟩
    have HX4 := hide ((unhide HX3).then hb4)
    have HR2 := hide hr2.any
    obtain ⟨y0, y1, rfl, g0, g1⟩ := hr2
    obtain ⟨d0, f0, e0⟩ := g0.slice
    obtain ⟨d1, f1, e1⟩ := g1.slice
    subst e0 e1
    clear hb4 q0 q1 g0 g1
    obtain ⟨q0, q1⟩ := (unhide HX4).get
    have IN := hide (fun W (h : RFlatN d W 0 x [.slice d0 x.signals.length f0, .slice d1 x.procs.length f1]) => (show Calls Try.prog 7 #[.agg #[.slice d0 x.signals.length f0, .slice d1 x.procs.length f1]] W _ from iFlatOK d x _ W h))
    have EQ := hide (fun W (u3 : Array Value) (h : RFlatN d W 0 x [.slice d0 x.signals.length f0, .slice d1 x.procs.length f1]) (h3 : RFlatN d W 0 x u3.toList) => (show Calls Try.prog 8 #[.agg #[.slice d0 x.signals.length f0, .slice d1 x.procs.length f1], .agg u3] W _ from eqFlat_of d x _ u3.toList W h h3))
    generalize flatB d x = SB at *
    have hne : (SB != SB) = false := by simp
    go_wp2_with fail
    refine (unhide IN _ ((unhide HR2).later (bal (brf _) _))).mono ?_
    rintro e W5 ⟨rfl, hb5⟩
    have HY : Hid (B2 31 W4 (.slice d0 x.signals.length f0) (.slice d1 x.procs.length f1) W5) := hide hb5
    have HX5 := hide ((unhide HX4).then (unhide HY).below)
    have HR5 := hide ((unhide HR2).later (unhide HY).below)
    clear hb5 q0 q1
    clear SZ IN HR1 HX1 HX2 HX3 HX4 hneg HR2
    go_wp2
    have LS := FL10_lasts d x (.agg #[.slice d0 x.signals.length f0, .slice d1 x.procs.length f1]) (.agg #[.slice a0 x.signals.length c0, .slice a1 x.procs.length c1])
    refine wp_plan (GW (FL10 d x (.agg #[.slice d0 x.signals.length f0, .slice d1 x.procs.length f1]) (.agg #[.slice a0 x.signals.length c0, .slice a1 x.procs.length c1]))) (JB W5) (by kernel_rfl) 27 (by kernel_rfl) (by kernel_rfl) ?hj ?hs ?hf
    case hj => exact bdr (brf W5)
    case hs =>
      refine ⟨?_, ?_, ?_, ?_, ?_, trivial⟩
      · exact sl_val rfl (fun l a V hp ha => ⟨.agg #[.slice d0 x.signals.length f0, .slice d1 x.procs.length f1], by
          have x5 := (ev_form a 5).trans (old hp 5 (v := .pointer (some ⟨W4.heap.size, 0, none⟩)) (by kernel_rfl) (by kernel_rfl))
          obtain ⟨p0, p1⟩ := ((unhide HY).then hp.j).get
          go_simp, rfl⟩)
      · exact sl_val rfl (fun l a V hp ha => ⟨.agg #[.slice a0 x.signals.length c0, .slice a1 x.procs.length c1], by
          have x1 := (ev_form a 1).trans (old hp 1 (v := .pointer (some ⟨w.heap.size, 0, none⟩)) (by kernel_rfl) (by kernel_rfl))
          obtain ⟨p0, p1⟩ := ((unhide HX5).then hp.j).get
          go_simp, rfl⟩)
      · exact sl_call (f := 6) LS rfl (fun l a V hp ha => ⟨#[.agg #[.slice a0 x.signals.length c0, .slice a1 x.procs.length c1]], by
          have x23 := (ev_form a 23).trans (show a.eval (.tmp 23) = .agg #[.slice a0 x.signals.length c0, .slice a1 x.procs.length c1] from kn hp ha 23 1 (by kernel_rfl) (by kernel_rfl))
          go_simp, (unhide TN' V (btr (unhide HX5).below hp.j)).mono (by rintro e V1 ⟨⟨u3, rfl, hr3⟩, hb, _⟩; exact ⟨_, rfl, ⟨u3.toArray, rfl, by simpa using hr3.any⟩, hb⟩)⟩)
      · refine sl_call (f := 8) LS rfl (fun l a V hp ha => ?_)
        have x22 := (ev_form a 22).trans (show a.eval (.tmp 22) = .agg #[.slice d0 x.signals.length f0, .slice d1 x.procs.length f1] from kn hp ha 22 0 (by kernel_rfl) (by kernel_rfl))
        obtain ⟨u3, h24, hr3⟩ : ∃ u3, a.eval (.tmp 24) = .agg u3 ∧ RFlatN d V 0 x u3.toList := kn hp ha 24 2 (by kernel_rfl) (by kernel_rfl)
        have x24 := (ev_form a 24).trans h24
        refine ⟨#[.agg #[.slice d0 x.signals.length f0, .slice d1 x.procs.length f1], .agg u3], by go_simp, (unhide EQ V u3 ((unhide HR5).later hp.j) hr3).mono ?_⟩
        rintro e V1 ⟨rfl, hb⟩
        exact ⟨_, rfl, rfl, hb⟩
      · exact sl_val rfl (fun l a V hp ha => ⟨.bool false, by
          have x25 := (ev_form a 25).trans (show a.eval (.tmp 25) = .bool true from kn hp ha 25 3 (by kernel_rfl) (by kernel_rfl))
          go_simp, rfl⟩)
    case hf =>
      intro l a V hp hall
      have hv := hp.good 4 _ 26 rfl rfl (hall 4 (by decide))
      have HBV := hide (btr (unhide HX5).below hp.j)
      obtain ⟨us, rfl, hus⟩ := putAll_of [22, 23, 24, 25, 26] hp.nt hp.df (fun t ht => hp.keep t (dstIn (by kernel_rfl) ht))
      have hv2 : us 26 = .bool false := by rw [hus 26]; exact hv
      clear hp hall hv hus
      simp only [putAll, List.foldl, Act.put, List.setIfInBounds_toArray, List.set_cons_zero, List.set_cons_succ, hv2]
      go_wp2
      exact bodyPost_ret (v := .bool true) (by simp [results, Try.results3, go_sem]) rfl ⟨rfl, unhide HBV⟩
  · have hsz := szR_lt (s := szFlatN d x) (left := 1048576) (by omega)
    rw [hsz] at SZ
    clear TN
    go_enter Try.func3, Try.ntmps3
    go_wp2_with fail
    refine (unhide SZ _ (bal (brf w) _)).mono ?_
    rintro e W1 ⟨rfl, hb1⟩
    have HB := hide (btr (bal (brf w) _) hb1)
    clear hb1
    go_wp2
    go_ret
    exact ⟨rfl, unhide HB⟩
end Go.Proofs.Ytgkfhaahcedbpaa
namespace Go.Proofs.Ytgkfhaahcedbpaa.Gs
open Go Go.RowKit
set_option linter.unusedVariables false
theorem choose_lt {α : Type} [Inhabited α] {n : Nat} {p : Nat → α → Prop} (h : ∀ i, i < n → ∃ x, p i x) : ∃ f : Nat → α, ∀ i, i < n → p i (f i) :=
  ⟨fun i => if hi : i < n then Classical.choose (h i hi) else default, fun i hi => by simp only [dif_pos hi]; exact Classical.choose_spec (h i hi)⟩
section
variable {H : Type} {enc : TypeId × Value → H} {P : Program} {w : World}
/-- Whatever of that type is read holds a datum. -/
def Opens {α : Type} (enc : TypeId × Value → H) (P : Program) (w : World) (t : TypeId) (k : Nat) (R : Rd α) : Prop := P.cellsOf t = k ∧ ∀ (fuel : Nat) (cs : List Value) (x : DataW H × List MemPlace), DataW.trod enc P w 0 (fun _ => true) true fuel t cs = some x → cs.length = k ∧ ∃ a : α, R w 0 a cs
theorem opens_int {t : TypeId} (h : P.underlying t = some (.int .i64)) (hc : P.cellsOf t = 1) : Opens enc P w t 1 RInt := ⟨hc, fun fuel cs x hx => by
  obtain ⟨k, hk, _, _⟩ := DataW.trod_int h hx
  subst hk
  exact ⟨rfl, k, rfl⟩⟩
theorem opens_str {t : TypeId} (h : P.underlying t = some .string) (hc : P.cellsOf t = 1) : Opens enc P w t 1 RStr := ⟨hc, fun fuel cs x hx => by
  obtain ⟨s, hs, _, hb⟩ := DataW.trod_string h hx
  subst hs
  exact ⟨rfl, s, rfl, hb⟩⟩
theorem opens_slice {α : Type} [Inhabited α] {tS tE : TypeId} {k : Nat} {R : Rd α} (hS : P.underlying tS = some (.slice tE)) (hk : 0 < k) (hE : Opens enc P w tE k R) :
    ∀ (fuel : Nat) (cs : List Value) (x : DataW H × List MemPlace), DataW.trod enc P w 0 (fun _ => true) true fuel tS cs = some x → ∃ (xs : List α) (v : Value), cs = [v] ∧ RS k R w 0 xs v := by
  intro fuel cs x h
  rcases DataW.trod_slice hS h with ⟨hcs, _⟩ | ⟨a, len, cap, elems, rest, n', hf', hcs, _, _, hlc, hcm, hlen, hel, _, _⟩
  · exact ⟨[], _, hcs, RS.nil _ _ _ _ _ _⟩
  · by_cases hz : len = 0
    · subst hz
      exact ⟨[], _, hcs, RS.nil _ _ _ _ _ _⟩
    · have key : ∀ i, i < len → ∃ q : α × List Value, q.2.length = k ∧ (∀ j y, q.2[j]? = some y → w.cell? (a.add (i * k + j)) = some y) ∧ R w 0 q.1 q.2 := by
        intro i hi
        have he := hel i hi
        rw [List.getElem?_eq_getElem (by omega), hE.1] at he
        obtain ⟨cs', hc', ht'⟩ := Option.bind_eq_some_iff.1 he
        obtain ⟨hl, d, hd⟩ := hE.2 n' _ _ ht'
        obtain ⟨hlc', _, hcell⟩ := World.cells?_some hc'
        refine ⟨(d, cs'), hl, fun j y hj => ?_, hd⟩
        have hjl : j < k := by rw [← hl]; exact (List.getElem?_eq_some_iff.1 hj).1
        have hc := hcell j (by omega)
        rw [hj] at hc
        simpa [Go.Deep.add_add] using hc
      have : Inhabited (α × List Value) := ⟨(default, [])⟩
      obtain ⟨f, hf⟩ := choose_lt (α := α × List Value) key
      have hspot : a.spot = none := by
        obtain ⟨h1, h2, _⟩ := hf 0 (by omega)
        obtain ⟨y, hy⟩ : ∃ y, (f 0).2[0]? = some y := ⟨_, List.getElem?_eq_getElem (by omega)⟩
        simpa [Addr.add] using World.cell?_spot (h2 0 y hy)
      obtain ⟨b, o, sp⟩ := a
      have hspot' : sp = none := hspot
      subst hspot'
      refine ⟨(List.range len).map fun i => (f i).1, _, hcs, some ⟨b, o, none⟩, cap, by simp, by simp; omega, by simp; omega, fun _ => ⟨b, o, rfl, Nat.zero_le _, fun i x hx => ?_⟩⟩
      simp only [List.getElem?_map, Option.map_eq_some_iff] at hx
      obtain ⟨i', hi', rfl⟩ := hx
      have hil : i < len := by simpa using (List.getElem?_eq_some_iff.1 hi').1
      have hii : i' = i := by simpa [List.getElem?_range hil] using hi'.symm
      subst hii
      obtain ⟨h1, h2, h3⟩ := hf i' hil
      refine ⟨(f i').2, h1, fun j y hj => ?_, h3⟩
      have := h2 j y hj
      rw [Addr.add_lit, ← Nat.add_assoc] at this
      exact this
theorem opens_row {α : Type} [Inhabited α] {tS tE : TypeId} {k : Nat} {R : Rd α} (hS : P.underlying tS = some (.slice tE)) (hc : P.cellsOf tS = 1) (hk : 0 < k) (hE : Opens enc P w tE k R) : Opens enc P w tS 1 (RL k R) := ⟨hc, fun fuel cs x h => by
  obtain ⟨xs, v, rfl, hr⟩ := opens_slice hS hk hE fuel cs x h
  exact ⟨rfl, xs, v, rfl, hr⟩⟩
end
end Go.Proofs.Ytgkfhaahcedbpaa.Gs
