/- The specification's PackRun. -/
import Derived.Test.YtdmmbhemmbgcpabGreatPT9
import Derived.Test.YtdmmbhemmbgcpabGreatGSA
import Derived.Test.YtdmmbhemmbgcpabGreatGQ12
namespace Go.Proofs.YtdmmbhemmbgcpabGreat
open Go Go.RowKit Gs
set_option linter.unusedVariables false
set_option linter.unusedSimpArgs false
set_option maxRecDepth 100000
theorem pack_same (a : Packed) : packI a = packS a := by
  unfold packI packS nms portsB blocksB
  rw [show upB (blkSAt a.ins.length a.blocks a.clocks.length (a.ins.length + a.blocks.length)) a.blocks.length = upB (blkAt a.ins.length a.blocks a.clocks.length) a.blocks.length from by
    congr 1
    funext k
    exact blkS_eq _ _ _ _ _]
  rw [List.all_append]
  generalize countsA a = c1
  generalize upB _ a.blocks.length = c2
  generalize a.outs.all _ = c3
  generalize a.checks.all _ = c4
  generalize namesB (a.ins ++ a.clocks) = c7
  generalize namesB ((a.blocks.filter (·.reg)).map _) = c8
  generalize namesB (a.outs.map _) = c9
  generalize namesB (a.checks.map _) = c10
  cases c1 <;> cases c2 <;> cases c3 <;> cases c4 <;> cases c7 <;> cases c8 <;> cases c9 <;> cases c10 <;> rfl
theorem RPacked.later {n : Packed} {u : List Value} {w W : World} {B : Nat} (h : RPacked w B n u) (hb : Below w.heap.size w W) : RPacked W B n u := RPacked.keeps _ _ _ _ _ (later_cells hb B) h
theorem RPacked.any {n : Packed} {u : List Value} {w : World} {B : Nat} (h : RPacked w B n u) : RPacked w 0 n u := RPacked.lowers _ _ _ _ _ (Nat.zero_le _) h
/-- A world behind one that boxed 5 cells. -/
def B5 (t : TypeId) (w : World) (y0 y1 y2 y3 y4 : Value) (V : World) : Prop := Below (w.alloc (.cells #[y0, y1, y2, y3, y4] t)).heap.size (w.alloc (.cells #[y0, y1, y2, y3, y4] t)) V
theorem B5.get {t : TypeId} {w : World} {y0 y1 y2 y3 y4 : Value} {V : World} (h : B5 t w y0 y1 y2 y3 y4 V) : V.cell? ⟨w.heap.size, 0, none⟩ = some y0 ∧ V.cell? ⟨w.heap.size, 1, none⟩ = some y1 ∧ V.cell? ⟨w.heap.size, 2, none⟩ = some y2 ∧ V.cell? ⟨w.heap.size, 3, none⟩ = some y3 ∧ V.cell? ⟨w.heap.size, 4, none⟩ = some y4 :=
  ⟨cell_later h (by rw [World.cell?_alloc_new]; rfl), cell_later h (by rw [World.cell?_alloc_new]; rfl), cell_later h (by rw [World.cell?_alloc_new]; rfl), cell_later h (by rw [World.cell?_alloc_new]; rfl), cell_later h (by rw [World.cell?_alloc_new]; rfl)⟩
theorem B5.then {t : TypeId} {w : World} {y0 y1 y2 y3 y4 : Value} {V U : World} (h : B5 t w y0 y1 y2 y3 y4 V) (hb : Below V.heap.size V U) : B5 t w y0 y1 y2 y3 y4 U := btr h hb
theorem B5.below {t : TypeId} {w : World} {y0 y1 y2 y3 y4 : Value} {V : World} (h : B5 t w y0 y1 y2 y3 y4 V) : Below w.heap.size w V := btr (bal (brf w) _) h
theorem own_start {W : World} {B M : Nat} (hM : W.heap.size = M) (h : B ≤ M) : (W.alloc (.cells #[] 71)).ownsRow B 71 3 (.slice (some ⟨M, 0, none⟩) 0 0) 0 (rcs []) := by
  subst hM
  exact ⟨rfl, .inr ⟨W.heap.size, 0, #[], rfl, h, heap_alloc_new W _, Nat.le_refl _, Nat.zero_le _, rfl, rfl⟩⟩
theorem init_b2i {x : Packed} (h : PkFit x) : x.blocks.map (fun l : Block => l.init) = (st0P x).map b2i := by
  unfold st0P
  rw [List.map_map]
  refine List.map_congr_left fun l hl => ?_
  cases hr : l.reg
  · simp [h.non l hl hr, b2i]
  · rcases (h.reg l hl hr).1 with e | e <;> simp [e, b2i]
theorem ports_at {V : World} {B n : Nat} {an : Option Addr} {cn : Nat} (h : V.ownsRow B 62 2 (.slice an n cn) n (portsL n)) : ∀ i, i < n → ∃ b o, an = some ⟨b, o, none⟩ ∧ V.cell? ⟨b, o + i * 2 + 1, none⟩ = some (.int .i64 1) := by
  intro i hi
  have hc := fun g hg => World.ownsRow.cells h (g := g) hg
  rcases h.2 with ⟨e, hn⟩ | ⟨g, cap, cur, e, hb, hg, hlc, hm, _⟩
  · omega
  · injection e with e1 e2 e3
    subst e1
    refine ⟨g, 0, rfl, ?_⟩
    have := hc g rfl (i * 2 + 1) (.int .i64 1) (portsL_get n i hi)
    rw [Addr.add_lit] at this
    simpa [Nat.add_assoc] using this
def statesP (x : Packed) : List Bool → List Step → List Bool
  | st, [] => st
  | st, s :: r => statesP x (stepP x.blocks st s) r
theorem rowsP_append (x : Packed) : ∀ (xs ys : List Step) (st : List Bool), rowsP x st (xs ++ ys) = rowsP x st xs ++ rowsP x (statesP x st xs) ys
  | [], _, _ => rfl
  | s :: r, ys, st => by rw [List.cons_append, rowsP, rowsP, rowsP_append x r, statesP, List.cons_append]
theorem statesP_append (x : Packed) : ∀ (xs ys : List Step) (st : List Bool), statesP x st (xs ++ ys) = statesP x (statesP x st xs) ys
  | [], _, _ => rfl
  | s :: r, ys, st => by rw [List.cons_append, statesP, statesP, statesP_append x r]
theorem statesP_len (x : Packed) : ∀ (xs : List Step) (st : List Bool), st.length = x.blocks.length → (statesP x st xs).length = x.blocks.length
  | [], _, h => h
  | s :: r, st, h => by rw [statesP]; exact statesP_len x r _ (stepP_len _ _ _)
theorem rowsP_len (x : Packed) : ∀ (steps : List Step) (st : List Bool), (rowsP x st steps).length = steps.length
  | [], _ => rfl
  | s :: r, st => by rw [rowsP, List.length_cons, rowsP_len x r, List.length_cons]
theorem init_cell {w : World} {bs : List Block} {s : Option Addr} {l c : Nat} (h : RS 6 RBlock w 0 bs (.slice s l c)) : ∀ (i : Nat) b, bs[i]? = some b → ∃ b2 o, s = some ⟨b2, o, none⟩ ∧ w.cell? ⟨b2, o + i * 6 + 4, none⟩ = some (.int .i64 b.init) := by
  intro i b hi
  obtain ⟨b2, o2, _, _, hs, _, _, hcell, _, _⟩ := block_cells h hi
  exact ⟨b2, o2, hs, hcell 4 _ rfl⟩
set_option maxHeartbeats 64000000 in
theorem sPackRun (x : Packed) (u : List Value) (steps : List Step) (sv : Value) (w : World) (hl : szPacked x ≤ 1048576) (hr : RPacked w 0 x u) (hs : RS 2 RStep w 0 steps sv) (hsl : steps.length ≤ 1048576) :
    Calls Tryz.prog 6 #[.agg u.toArray, sv] w fun e w' => (∃ v us E, e = .returned (.tuple #[v, .int .i64 (runP x steps).2]) ∧ w'.ownsRow w.heap.size 71 3 v (runP x steps).1.length (rcs us) ∧ RowsO w' w.heap.size E us (runP x steps).1 ∧ E ≤ w'.heap.size) ∧ Below w.heap.size w w' := by
  have HOK := hide (fun (V : World) (hb : Below w.heap.size w V) => sPackOK x u V hl (hr.later hb))
  rw [← pack_same x] at HOK
  have hz : szPacked x = szL (fun (s : ByteArray) => s.size) x.ins + szL (fun (s : ByteArray) => s.size) x.clocks + szL szBlock x.blocks + szL szPort x.outs + szL szPort x.checks := rfl
  have z0 := szL_sm (fun (s : ByteArray) => s.size) x.ins
  have z1 := szL_sm (fun (s : ByteArray) => s.size) x.clocks
  have z2 := szL_sm szBlock x.blocks
  have b0 : x.ins.length ≤ 1048576 := by omega
  have b1 : x.clocks.length ≤ 1048576 := by omega
  have b2 : x.blocks.length ≤ 1048576 := by omega
  clear hz z0 z1 z2
  obtain ⟨v0, v1, v2, v3, v4, rfl, h0, h1, h2, h3, h4⟩ := hr
  obtain ⟨s0, c0, e0⟩ := h0.slice
  obtain ⟨s1, c1, e1⟩ := h1.slice
  obtain ⟨s2, c2, e2⟩ := h2.slice
  obtain ⟨s3, c3, e3⟩ := h3.slice
  obtain ⟨s4, c4, e4⟩ := h4.slice
  subst e0 e1 e2 e3 e4
  clear h0 h1
  have HS := hide hs
  have H2 := hide h2
  have H3 := hide h3
  have H4 := hide h4
  obtain ⟨sa, sc, rfl⟩ := hs.slice
  have hcap := rs_cap hs
  clear hs h2 h3 h4
  show Calls Tryz.prog 6 #[.agg #[.slice s0 x.ins.length c0, .slice s1 x.clocks.length c1, .slice s2 x.blocks.length c2, .slice s3 x.outs.length c3, .slice s4 x.checks.length c4], .slice sa steps.length sc] w _
  change Hid (∀ (V : World), Below w.heap.size w V → Calls Tryz.prog 21 #[.agg #[.slice s0 x.ins.length c0, .slice s1 x.clocks.length c1, .slice s2 x.blocks.length c2, .slice s3 x.outs.length c3, .slice s4 x.checks.length c4]] V _) at HOK
  by_cases hlong : steps.length ≤ 4096
  · have hd : decide ((4096 : Int) < (steps.length : Int)) = false := decide_eq_false (by omega)
    cases hok : packI x
    · have HR : Hid (runP x steps = ([], 1)) := hide (by unfold runP; rw [if_pos hlong, hok]; rfl)
      rw [hok] at HOK
      clear hok HS H2 H3 H4
      go_enter Tryz.func6, Tryz.ntmps6
      go_wp2_with fail
      refine (unhide HOK _ (bal (brf w) _)).mono ?_
      rintro e W1 ⟨rfl, hb1⟩
      have HB := hide (btr (bal (brf w) _) hb1)
      have HNL : Hid ((W1.alloc (.cells #[] 71)).ownsRow w.heap.size 71 3 (.slice (some ⟨W1.heap.size, 0, none⟩) 0 0) 0 (rcs [])) := hide (own_start rfl (unhide HB).size)
      clear hb1
      go_wp2_with fail
      exact bodyPost_ret (v := .tuple #[.slice (some ⟨W1.heap.size, 0, none⟩) 0 0, .int .i64 1]) (by simp [results, Tryz.results6, go_sem]) rfl ⟨⟨_, [], w.heap.size, by rw [unhide HR], by rw [unhide HR]; exact unhide HNL, by rw [unhide HR]; exact .nil _, (bal (unhide HB) _).size⟩, bal (unhide HB) _⟩
    · have hfit := PkFit.of hok
      rw [hok] at HOK
      have HFIT := hide hfit
      have HINI := hide (init_b2i hfit)
      have hn0 := hfit.n0
      have hn2 := hfit.n2
      obtain ⟨N, hN⟩ : ∃ N : Nat, N = x.ins.length + x.blocks.length := ⟨_, rfl⟩
      have hNe : (x.ins.length : Int) + (x.blocks.length : Int) = (N : Int) := by omega
      have HN := hide hN
      clear hfit hN
      have HC : Hid (∀ V, Below (w.alloc (.cells #[.slice s0 x.ins.length c0, .slice s1 x.clocks.length c1, .slice s2 x.blocks.length c2, .slice s3 x.outs.length c3, .slice s4 x.checks.length c4] 36)).heap.size (w.alloc (.cells #[.slice s0 x.ins.length c0, .slice s1 x.clocks.length c1, .slice s2 x.blocks.length c2, .slice s3 x.outs.length c3, .slice s4 x.checks.length c4] 36)) V → B5 36 w (.slice s0 x.ins.length c0) (.slice s1 x.clocks.length c1) (.slice s2 x.blocks.length c2) (.slice s3 x.outs.length c3) (.slice s4 x.checks.length c4) V) := hide (fun V h => h)
      go_enter Tryz.func6, Tryz.ntmps6
      go_wp2_with fail
      refine (unhide HOK _ (bal (brf w) _)).mono ?_
      rintro e W1 ⟨rfl, hb1⟩
      have HX1 := hide (unhide HC _ hb1)
      obtain ⟨q0, q1, q2, q3, q4⟩ := (unhide HX1).get
      clear hb1 HOK HC
      go_wp2_with fail
      have hq2 : W1.heap.size < (W1.alloc (.cells #[.slice none 0 0, .slice s1 x.clocks.length c1, .slice none 0 0, .slice none 0 0, .slice none 0 0, .slice none 0 0] 60)).heap.size := by simp
      have hrq : ∀ i (hi : i < 6), RC (W1.alloc (.cells #[.slice none 0 0, .slice s1 x.clocks.length c1, .slice none 0 0, .slice none 0 0, .slice none 0 0, .slice none 0 0] 60)) W1.heap.size i ((#[.slice none 0 0, .slice s1 x.clocks.length c1, .slice none 0 0, .slice none 0 0, .slice none 0 0, .slice none 0 0] : Array Value)[i]'hi) := by
        intro i hi
        have t := TP_made W1 #[.slice none 0 0, .slice s1 x.clocks.length c1, .slice none 0 0, .slice none 0 0, .slice none 0 0, .slice none 0 0] 60 6 rfl i hi
        refine ⟨?_, t.2⟩
        rw [World.cell?_alloc_new]
        match i, hi with
        | 0, _ => rfl
        | 1, _ => rfl
        | 2, _ => rfl
        | 3, _ => rfl
        | 4, _ => rfl
        | 5, _ => rfl
      clear q0 q1 q2 q3 q4
      refine sL1 (W3 := W1) (q := W1.heap.size) b0 (hide (fun V hV => ((unhide HX1).then hV).get.1)) (hide (bal (brf W1) _)) (Nat.le_refl _) hq2 (hide (hrq 0 (by decide))) ?_
      intro y7 y33 y34 y35 y36 y37 y38 y39 y40 y41 y42 y43 y44 y45 V2 vp hvp hf2 hr0 hoth2
      have hr1 := (hoth2 1 _ (by decide) (hrq 1 (by decide))).1
      have hr2 := (hoth2 2 _ (by decide) (hrq 2 (by decide))).1
      have hr3 := (hoth2 3 _ (by decide) (hrq 3 (by decide))).1
      have hr4 := (hoth2 4 _ (by decide) (hrq 4 (by decide))).1
      have hr5 := (hoth2 5 _ (by decide) (hrq 5 (by decide))).1
      change V2.cell? ⟨W1.heap.size, 1, none⟩ = some (.slice s1 x.clocks.length c1) at hr1
      change V2.cell? ⟨W1.heap.size, 2, none⟩ = some (.slice none 0 0) at hr2
      change V2.cell? ⟨W1.heap.size, 3, none⟩ = some (.slice none 0 0) at hr3
      change V2.cell? ⟨W1.heap.size, 4, none⟩ = some (.slice none 0 0) at hr4
      change V2.cell? ⟨W1.heap.size, 5, none⟩ = some (.slice none 0 0) at hr5
      have hr0' := hr0.1
      obtain ⟨an, cn, rfl⟩ := own_shape hvp
      have hb2 : Below W1.heap.size W1 V2 := hf2.below (bal (brf W1) _) (Nat.le_refl _) (Nat.le_of_lt hq2)
      have HX2 := hide ((unhide HX1).then hb2)
      have HSO := hide (sStepsOK (n1 := x.clocks.length) (cn := cn) (cc := c1) (an := an) (ac := s1) (z2 := .slice none 0 0) (z3 := .slice none 0 0) (z4 := .slice none 0 0) (z5 := .slice none 0 0) steps (.slice sa steps.length sc) ((unhide HS).later RStep.keeps (unhide HX2).below) hlong (ports_at hvp) b0 b1)
      clear hvp hf2 hr0 hoth2 hb2 hrq hq2
      cases hall : steps.all (stepB x.ins.length x.clocks.length)
      · have HR : Hid (runP x steps = ([], 1)) := hide (by unfold runP; rw [if_pos hlong, hok, hall]; rfl)
        rw [hall] at HSO
        clear hok hall
        go_wp2_with fail
        refine (unhide HSO).mono ?_
        rintro e W3 ⟨rfl, hb3⟩
        have HB := hide ((unhide HX2).then hb3).below
        have HNL : Hid ((W3.alloc (.cells #[] 71)).ownsRow w.heap.size 71 3 (.slice (some ⟨W3.heap.size, 0, none⟩) 0 0) 0 (rcs [])) := hide (own_start rfl (unhide HB).size)
        clear hb3
        go_wp2_with fail
        exact bodyPost_ret (v := .tuple #[.slice (some ⟨W3.heap.size, 0, none⟩) 0 0, .int .i64 1]) (by simp [results, Tryz.results6, go_sem]) rfl ⟨⟨_, [], w.heap.size, by rw [unhide HR], by rw [unhide HR]; exact unhide HNL, by rw [unhide HR]; exact .nil _, (bal (unhide HB) _).size⟩, bal (unhide HB) _⟩
      · have HR : Hid (runP x steps = (rowsP x (st0P x) steps, 0)) := hide (by unfold runP; rw [if_pos hlong, hok, hall]; rfl)
        have HFS : Hid (∀ s ∈ steps, s.ins.length = x.ins.length ∧ s.ticks.length = x.clocks.length) := hide (fun s hs => by
          have h := stepB_fit (x := unpackM x id) (List.all_eq_true.1 hall s hs)
          exact ⟨h.1, h.2.1⟩)
        rw [hall] at HSO
        clear hok hall
        go_wp2_with fail
        refine (unhide HSO).mono ?_
        rintro e W3 ⟨rfl, hb3⟩
        have HX3 := hide ((unhide HX2).then hb3)
        clear hb3 hr0' hr1 hr2 hr3 hr4 hr5 HSO
        go_wp2_with fail
        refine sL2 (W0 := W3) (ls := x.blocks) rfl b2 (hide (fun V hV => ((unhide HX3).then hV).get.2.2.1)) (hide (init_cell ((unhide H2).later RBlock.keeps (unhide HX3).below))) (hide (OI_start rfl (Nat.le_refl _))) (hide (bal (brf W3) _)) ?_
        intro y9 y52 y53 y54 y55 y56 y57 y58 y59 y60 y61 y62 y63 y64 y65 y66 y67 V4 v8 ho4 hb4
        rw [unhide HINI] at ho4
        have HX4 := hide ((unhide HX3).then hb4)
        obtain ⟨a8, n8, c8, rfl⟩ := ho4.shape
        obtain ⟨Wl, hWl⟩ : ∃ Wl, Wl = V4.alloc (.cells #[] 71) := ⟨_, rfl⟩
        have hbl : Below V4.heap.size V4 Wl := by rw [hWl]; exact bal (brf V4) _
        have HO8 : Hid (OI w.heap.size Wl (.slice a8 n8 c8) ((st0P x).map b2i)) := hide ((ho4.later hbl).low2 (unhide HX3).below.size)
        have HNL : Hid (Wl.ownsRow V4.heap.size 71 3 (.slice (some ⟨V4.heap.size, 0, none⟩) 0 0) 0 (rcs [])) := hide (by rw [hWl]; exact own_start rfl (Nat.le_refl _))
        have HWl := hide hWl
        have HNW := hide (show V4.heap.size ≤ Wl.heap.size from hbl.size)
        have HB4 := hide (unhide HX4).below
        obtain ⟨q0, q1, q2, q3, q4⟩ := (unhide HX4).get
        clear ho4 hb4 hWl hbl
        have HCS : Hid (∀ (i : Nat) s, steps[i]? = some s → ∃ b o vi vt, sa = some ⟨b, o, none⟩ ∧ w.cell? ⟨b, o + i * 2, none⟩ = some vi ∧ w.cell? ⟨b, o + i * 2 + 1, none⟩ = some vt ∧ RS 1 RStr w 0 s.ins vi ∧ RS 1 RBool w 0 s.ticks vt) := hide (by
          intro i s hi
          rcases (unhide HS).open with ⟨rfl, _⟩ | ⟨b, o, c', hv, _, _, _, he⟩
          · simp at hi
          · injection hv with e1 e2 e3
            obtain ⟨u, hu, hat, vi, vt, hux, h1, h2⟩ := he i s hi
            subst hux
            exact ⟨b, o, vi, vt, e1, by simpa using hat.get (j := 0) rfl, by simpa using hat.get (j := 1) rfl, h1, h2⟩)
        go_wp2_with fail
        rw [← unhide HWl]
        go_loopw [8, 11, 12] (fun v8 v10 i wr => ∃ (k : Nat) (us : List (Value × Value × Value)) (E : Nat), k ≤ steps.length ∧ i = .int .i64 k ∧ OI w.heap.size wr v8 ((statesP x (st0P x) (steps.take k)).map b2i) ∧ (∃ a l c, v8 = .slice a l c) ∧ wr.ownsRow V4.heap.size 71 3 v10 k (rcs us) ∧ RowsO wr V4.heap.size E us (rowsP x (st0P x) (steps.take k)) ∧ E ≤ wr.heap.size ∧ Below V4.heap.size V4 wr) (fun _ _ i _ => steps.length - (intOf i).toNat)
        case atStart => exact ⟨0, [], V4.heap.size, Nat.zero_le _, rfl, unhide HO8, ⟨_, _, _, rfl⟩, unhide HNL, .nil _, unhide HNW, by rw [unhide HWl]; exact bal (brf V4) _⟩
        case round =>
          obtain ⟨k, us, E, hk, rfl, ho, ⟨a9, n9, c9, rfl⟩, hown, hrows, hE, hb⟩ := hrel
          by_cases hlt : k < steps.length
          · have hsk : steps[k]? = some steps[k] := List.getElem?_eq_getElem hlt
            have hft := unhide HFS _ (List.getElem_mem hlt)
            generalize steps[k] = s at hsk hft
            obtain ⟨bb, oo, vi, vt, rfl, hc0, hc1, hsi, hst⟩ := unhide HCS k s hsk
            obtain ⟨ai, ci, hvi⟩ := hsi.slice
            obtain ⟨ak, ct, hvt⟩ := hst.slice
            rw [hft.1] at hvi
            rw [hft.2] at hvt
            subst hvi hvt
            have hStep : rowsP x (st0P x) (steps.take (k + 1)) = rowsP x (st0P x) (steps.take k) ++ [rowP x (s.ins.map bit1) (stepP x.blocks (statesP x (st0P x) (steps.take k)) s)] := by
              rw [List.take_add_one, hsk, Option.toList_some, rowsP_append]; rfl
            have hStates : statesP x (st0P x) (steps.take (k + 1)) = stepP x.blocks (statesP x (st0P x) (steps.take k)) s := by
              rw [List.take_add_one, hsk, Option.toList_some, statesP_append]; rfl
            have hstl := statesP_len x (steps.take k) (st0P x) (by unfold st0P; simp)
            have HSTEP := hide (And.intro hStep hStates)
            have HO := hide ho
            have HOW := hide hown
            have HRW := hide hrows
            have HB := hide hb
            have HFT := hide hft
            have HK0 := hide hc0
            have HK1 := hide hc1
            have HSI := hide hsi
            have HTK := hide hst
            have HSTL := hide hstl
            have HBXk := hide (fun V (hV : Below wr.heap.size wr V) => ((unhide HX4).then (btr hb hV)).get)
            clear hStep hStates ho hown hrows hb hft hc0 hc1 hsi hst hsk hstl HCS q0 q1 q2 q3 q4
            refine wp_seq_k ?_
            intro K1 hK1
            have HK1' := hide hK1
            clear hK1
            go_wp2_with fail
            refine unhide HK1' _ _ ?_
            clear HK1'
            refine wp_seq_k ?_
            intro K2 hK2
            have HK2' := hide hK2
            clear hK2
            refine wp_block ?_
            refine prRound (N := N) (B := V4.heap.size) (w := w) (unhide HFIT) (unhide HFT).1 (unhide HFT).2 (unhide HSTL) (unhide HN) hlt hlong hcap (by omega) (hide (btr (unhide HB4) (unhide HB))) H2 H3 H4 HBXk HK0 HK1 HSI HTK HO HOW HRW hE (unhide HB).size (unhide HB4).size ?_
            intro y8 y11 y13 y14 y15 y16 y17 y18 y19 y20 y21 y82 y83 y84 y85 y86 y87 y88 y89 y90 y91 y92 y93 y94 y95 y96 y97 y98 y99 y100 y101 y102 y103 y104 y105 y106 y107 y108 y109 y110 y111 y112 y113 y114 y115 y116 y117 y118 y119 y120 y121 y122 y123 y124 y125 y126 y127 y128 y129 y130 y131 y132 y133 y134 y135 y136 y137 y138 y139 y140 y141 y142 y143 y144 y145 y146 y147 y148 y149 y150 y151 y152 y153 y154 y155 y156 y157 y158 y159 y160 y161 y162 y163 y164 y165 y166 y167 y168 y169 y170 y171 y172 y173 y174 y175 y176 y177 y178 y179 y180 y181 y182 y183 y184 y185 y186 y187 y188 y189 y190 y191 y192 y193 y194 y195 y196 y197 y198 y199 y200 y201 y202 y203 y204 y205 y206 y207 y208 y209 y210 y211 y212 y213 y214 y215 y216 y217 y218 y219 y220 y221 y222 y223 y224 y225 y226 V us' hv8 hs8 hown' hrow' hlow hloww
            refine unhide HK2' _ _ ?_
            clear HK2'
            have HR1 := hide (And.intro hv8 (And.intro hs8 (And.intro hown' (And.intro hrow' hlow))))
            clear hv8 hs8 hown' hrow' hlow hloww
            go_wp2_with fail
            go_roundw
            case rel =>
              obtain ⟨r1, r2, r3, ⟨E', r4, r5⟩, r6⟩ := unhide HR1
              exact ⟨k + 1, us', E', by omega, by go_num, by rw [(unhide HSTEP).2]; exact r1, r2, r3, by rw [(unhide HSTEP).1]; exact r4, r5, (unhide HB).trans r6⟩
            case measure => simp [intOf]; omega
          · obtain rfl : k = steps.length := by omega
            rw [List.take_of_length_le (Nat.le_refl _)] at hrows
            have hB4 := (unhide HB4).size
            have HF : Hid (wr.ownsRow w.heap.size 71 3 u11 (rowsP x (st0P x) steps).length (rcs us) ∧ (∃ E, RowsO wr w.heap.size E us (rowsP x (st0P x) steps) ∧ E ≤ wr.heap.size) ∧ Below w.heap.size w wr) := hide ⟨by
              rw [rowsP_len]
              obtain ⟨k1, k2 | ⟨g, cap, cur, hv, hg, rest⟩⟩ := hown
              · exact ⟨k1, .inl k2⟩
              · exact ⟨k1, .inr ⟨g, cap, cur, hv, by omega, rest⟩⟩, RowsO.low hrows hE hB4, btr (unhide HB4) hb⟩
            clear ho hown hrows hb HCS q0 q1 q2 q3 q4
            go_wp2_with fail
            exact bodyPost_ret (v := .tuple #[u11, .int .i64 0]) (by simp [results, Tryz.results6, go_sem]) rfl ⟨by
              obtain ⟨k1, ⟨E', k2, k3⟩, _⟩ := unhide HF
              exact ⟨_, us, E', by rw [unhide HR], by rw [unhide HR]; exact k1, by rw [unhide HR]; exact k2, k3⟩, (unhide HF).2.2⟩
  · have hd : decide ((4096 : Int) < (steps.length : Int)) = true := decide_eq_true (by omega)
    have HR : Hid (runP x steps = ([], 2)) := hide (by unfold runP; rw [if_neg hlong])
    clear HS H2 H3 H4 HOK
    have HB := hide (bal (brf w) (.cells #[.slice s0 x.ins.length c0, .slice s1 x.clocks.length c1, .slice s2 x.blocks.length c2, .slice s3 x.outs.length c3, .slice s4 x.checks.length c4] 36))
    have HNL : Hid (((w.alloc (.cells #[.slice s0 x.ins.length c0, .slice s1 x.clocks.length c1, .slice s2 x.blocks.length c2, .slice s3 x.outs.length c3, .slice s4 x.checks.length c4] 36)).alloc (.cells #[] 71)).ownsRow w.heap.size 71 3 (.slice (some ⟨w.heap.size + 1, 0, none⟩) 0 0) 0 (rcs [])) := hide (own_start (by simp) (by omega))
    go_enter Tryz.func6, Tryz.ntmps6
    go_wp2_with fail
    exact bodyPost_ret (v := .tuple #[.slice (some ⟨w.heap.size + 1, 0, none⟩) 0 0, .int .i64 2]) (by simp [results, Tryz.results6, go_sem]) rfl ⟨⟨_, [], w.heap.size, by rw [unhide HR], by rw [unhide HR]; exact unhide HNL, by rw [unhide HR]; exact .nil _, (bal (unhide HB) _).size⟩, bal (unhide HB) _⟩
end Go.Proofs.YtdmmbhemmbgcpabGreat
