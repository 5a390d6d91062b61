/- Loops of the specification over lists: l05Has, l16Has, l16Reached. -/
import Derived.Test.YtlldfaniddbjaaaGreatDoorGHD
import Derived.Test.YtlldfaniddbjaaaGreatDoorDE
import Derived.BigQuiet
import Derived.Test.YtlldfaniddbjaaaGreatDoorGFB
namespace Go.Proofs.YtlldfaniddbjaaaGreatDoor
open Go Go.RowKit Gs
set_option linter.unusedVariables false
set_option linter.unusedSimpArgs false
set_option maxRecDepth 100000
set_option maxHeartbeats 3200000
def RSpot : Rd (Int × Int) := fun _ _ x u => u = [.int .i64 x.1, .int .i64 x.2]
theorem RSpot.keeps : Keeps RSpot := fun _ _ _ _ _ _ h => h
theorem RSpot.lowers : Lowers RSpot := fun _ _ _ _ _ _ h => h
/-- Whether a place is in a list. -/
def hasP (xs : List (Int × Int)) (s : Int × Int) : Bool := xs.any fun y => decide (y = s)
theorem hasP_take {xs : List (Int × Int)} {k : Nat} {y : Int × Int} (h : xs[k]? = some y) (s : Int × Int) : hasP (xs.take (k + 1)) s = (hasP (xs.take k) s || decide (y = s)) := by
  unfold hasP
  rw [List.take_add_one, h, List.any_append]
  simp
theorem hasP_mem {xs : List (Int × Int)} {s : Int × Int} : hasP xs s = true ↔ s ∈ xs := by
  unfold hasP
  rw [List.any_eq_true]
  constructor
  · rintro ⟨y, hy, h⟩
    rw [decide_eq_true_eq] at h
    rw [← h]; exact hy
  · intro h
    exact ⟨s, h, by simp⟩
theorem sHasI (xs : List Int) (x : Int) (v : Value) (w : World) (hl : xs.length ≤ 1048576) (hr : RS 1 RInt w 0 xs v) :
    Calls Tryz.prog 82 #[v, .int .i64 x] w fun e w' => e = .returned (.bool (hasB xs x)) ∧ w' = w := by
  rcases hr.open with ⟨rfl, a, c, rfl⟩ | ⟨b, o, c, rfl, hc, hn, _, hcs⟩
  · clear hr
    go_enter Tryz.func82, Tryz.ntmps82
    go_wp2
    refine wp_loop_rounds 1 ?_
    rw [rounds_succ]
    go_wp2
    exact bodyPost_ret (v := .bool false) (by simp [results, Tryz.results82, go_sem]) rfl ⟨rfl, rfl⟩
  · have HC := hide hcs
    clear hcs hr hc hn
    go_enter Tryz.func82, Tryz.ntmps82
    go_wp2
    go_loop [5] (fun i => ∃ k : Nat, k ≤ xs.length ∧ i = .int .i64 k ∧ hasB (xs.take k) x = false) (fun i => xs.length - (intOf i).toNat)
    case atStart => exact ⟨0, Nat.zero_le _, rfl, rfl⟩
    case round =>
      obtain ⟨k, hk, rfl, hall⟩ := hrel
      have HA := hide hall
      clear hall
      by_cases hlt : k < xs.length
      · have hx : xs[k]? = some xs[k] := List.getElem?_eq_getElem hlt
        generalize xs[k] = y at hx
        have HST := hide (hasB_take hx x)
        have HF : Hid (x = y → hasB xs x = true) := hide (fun h => hasB_mem (by rw [h]; exact hx))
        obtain ⟨u, hul, hat, hus⟩ := unhide HC k y hx
        subst hus
        have k0 := hat.get (j := 0) rfl
        simp only [Nat.add_zero, Nat.mul_one] at k0
        have i1 : (0 : Int) ≤ (k : Int) := by omega
        have i2 : (k : Int) < (xs.length : Int) := by omega
        clear hat hul HC hx
        by_cases e : y = x
        · have HT : Hid (hasB xs x = true) := hide (unhide HF e.symm)
          clear HF HST
          subst e
          go_wp2
          exact bodyPost_ret (v := .bool true) (by simp [results, Tryz.results82, go_sem]) rfl ⟨by rw [unhide HT], rfl⟩
        · have e2 : Hid (x ≠ y) := hide (fun h => e h.symm)
          go_wp2
          go_round
          case rel => exact ⟨k + 1, by omega, by go_num, by rw [unhide HST, unhide HA, decide_eq_false (unhide e2)]; rfl⟩
          case measure => simp [intOf]; omega
      · obtain rfl : k = xs.length := by omega
        clear HC
        go_wp2
        refine bodyPost_ret (v := .bool false) (by simp [results, Tryz.results82, go_sem]) rfl ⟨?_, rfl⟩
        have h := unhide HA
        rw [List.take_of_length_le (Nat.le_refl _)] at h
        rw [h]
theorem sHas (xs : List (Int × Int)) (s : Int × Int) (v : Value) (w : World) (hl : xs.length ≤ 1048576) (hr : RS 2 RSpot w 0 xs v) :
    Calls Tryz.prog 49 #[v, .agg #[.int .i64 s.1, .int .i64 s.2]] w fun e w' => e = .returned (.bool (hasP xs s)) ∧ Below w.heap.size w w' := by
  obtain ⟨s1, s2⟩ := s
  rcases hr.open with ⟨rfl, a, c, rfl⟩ | ⟨b, o, c, rfl, hc, hn, _, hcs⟩
  · clear hr
    go_enter Tryz.func49, Tryz.ntmps49
    go_wp2
    refine wp_loop_rounds 1 ?_
    rw [rounds_succ]
    go_wp2
    exact bodyPost_ret (v := .bool false) (by simp [results, Tryz.results49, go_sem]) rfl ⟨rfl, bal (brf w) _⟩
  · have HC := hide hcs
    clear hcs hr hc hn
    go_enter Tryz.func49, Tryz.ntmps49
    go_wp2
    go_loopw [5] (fun i wr => ∃ k : Nat, k ≤ xs.length ∧ i = .int .i64 k ∧ hasP (xs.take k) (s1, s2) = false ∧ wr.cell? ⟨w.heap.size, 0, none⟩ = some (.int .i64 s1) ∧ wr.cell? ⟨w.heap.size, 1, none⟩ = some (.int .i64 s2) ∧ Below w.heap.size w wr) (fun i _ => xs.length - (intOf i).toNat)
    case atStart => exact ⟨0, Nat.zero_le _, rfl, rfl, by rw [World.cell?_alloc_new]; rfl, by rw [World.cell?_alloc_new]; rfl, bal (brf w) _⟩
    case round =>
      obtain ⟨k, hk, rfl, hall, c0, c1, hb⟩ := hrel
      have HA := hide hall
      have HB := hide hb
      clear hall hb
      by_cases hlt : k < xs.length
      · have hx : xs[k]? = some xs[k] := List.getElem?_eq_getElem hlt
        generalize xs[k] = y at hx
        have HST := hide (hasP_take hx (s1, s2))
        have HF : Hid (y = (s1, s2) → hasP xs (s1, s2) = true) := hide (fun h => hasP_mem.2 (by rw [← h]; exact List.mem_of_getElem? hx))
        obtain ⟨u, hul, hat, hus⟩ := unhide HC k y hx
        obtain ⟨y1, y2⟩ := y
        subst hus
        have k0 := cell_later (unhide HB) (hat.get (j := 0) rfl)
        have k1 := cell_later (unhide HB) (hat.get (j := 1) rfl)
        simp only [Nat.add_zero] at k0
        have i1 : (0 : Int) ≤ (k : Int) := by omega
        have i2 : (k : Int) < (xs.length : Int) := by omega
        clear hat hul HC hx
        by_cases e1 : y1 = s1
        · by_cases e2 : y2 = s2
          · have HT : Hid (hasP xs (s1, s2) = true) := hide (unhide HF (by rw [e1, e2]))
            clear HF HST
            subst e1 e2
            go_wp2
            go_quiet (fail)
            go_wp2
            exact bodyPost_ret (v := .bool true) (by simp [results, Tryz.results49, go_sem]) rfl ⟨by rw [unhide HT], bdn (unhide HB)⟩
          · have HN : Hid (decide ((y1, y2) = (s1, s2)) = false) := hide (decide_eq_false (fun h => e2 (by injection h)))
            clear HF
            go_wp2
            go_quiet (fail)
            go_wp2
            go_round
            case rel => exact ⟨k + 1, by omega, by go_num, by rw [unhide HST, unhide HA, unhide HN]; rfl, cell_later (bdn (brf _)) c0, cell_later (bdn (brf _)) c1, bdn (unhide HB)⟩
            case measure => simp [intOf]; omega
        · have HN : Hid (decide ((y1, y2) = (s1, s2)) = false) := hide (decide_eq_false (fun h => e1 (by injection h)))
          clear HF
          go_wp2
          go_quiet (fail)
          go_wp2
          go_round
          case rel => exact ⟨k + 1, by omega, by go_num, by rw [unhide HST, unhide HA, unhide HN]; rfl, cell_later (bdn (brf _)) c0, cell_later (bdn (brf _)) c1, bdn (unhide HB)⟩
          case measure => simp [intOf]; omega
      · obtain rfl : k = xs.length := by omega
        clear HC
        go_wp2
        refine bodyPost_ret (v := .bool false) (by simp [results, Tryz.results49, go_sem]) rfl ⟨?_, unhide HB⟩
        have h := unhide HA
        rw [List.take_of_length_le (Nat.le_refl _)] at h
        rw [h]
end Go.Proofs.YtlldfaniddbjaaaGreatDoor
namespace Go.Proofs.YtlldfaniddbjaaaGreatDoor
open Go Go.RowKit Gs
set_option linter.unusedVariables false
set_option linter.unusedSimpArgs false
set_option maxRecDepth 100000
set_option maxHeartbeats 6400000
def endH (h : Hop) : Int × Int := (endX h.x h.d, endY h.y h.d)
/-- Whether a wire of a net ends there. -/
def reachedB (net : List Hop) (s : Int × Int) : Bool := hasP (net.map endH) s
def SmH (h : Hop) : Prop := (-9 ≤ h.x ∧ h.x ≤ 9) ∧ (-9 ≤ h.y ∧ h.y ≤ 9)
theorem reachedB_take {net : List Hop} {k : Nat} {y : Hop} (h : net[k]? = some y) (s : Int × Int) : reachedB (net.take (k + 1)) s = (reachedB (net.take k) s || decide (endH y = s)) := by
  unfold reachedB
  rw [List.map_take, List.map_take, hasP_take (y := endH y) (by rw [List.getElem?_map, h]; rfl)]
theorem reachedB_mem {net : List Hop} {k : Nat} {y : Hop} (h : net[k]? = some y) {s : Int × Int} (e : endH y = s) : reachedB net s = true := by
  unfold reachedB
  exact hasP_mem.2 (by rw [← e]; exact List.mem_map_of_mem (List.mem_of_getElem? h))
/-- Two numbers held against two. -/
theorem two_eq {α : Type} {p q : Prop} [Decidable p] [Decidable q] {b : Bool} {f : Bool → α} (h : (decide p && decide q) = b) : (if p then if q then f true else f false else f false) = f b := by
  subst h
  by_cases g1 : p <;> by_cases g2 : q <;> simp [g1, g2]
/-- What lies in memory of a wire of a net. -/
theorem hop_cells {W : World} {b o k : Nat} {y : Hop} {u : List Value} (hl : u.length = 5) (hat : At W b (o + k * 5) u) (hr : RHop W 0 y u) :
    W.cell? ⟨b, o + k * 5, none⟩ = some (.int .i64 y.x) ∧ W.cell? ⟨b, o + k * 5 + 1, none⟩ = some (.int .i64 y.y) ∧ W.cell? ⟨b, o + k * 5 + 2, none⟩ = some (.int .i64 y.d) ∧ W.cell? ⟨b, o + k * 5 + 3, none⟩ = some (.int .i64 y.t) ∧ W.cell? ⟨b, o + k * 5 + 4, none⟩ = some (.int .i64 y.f) := by
  have hr' : u = [.int .i64 y.x, .int .i64 y.y, .int .i64 y.d, .int .i64 y.t, .int .i64 y.f] := hr
  subst hr'
  exact ⟨hat 0 _ rfl, hat 1 _ rfl, hat 2 _ rfl, hat 3 _ rfl, hat 4 _ rfl⟩
def FRe (b o N c k : Nat) (y : Hop) (s1 s2 : Int) (q : Bool) : Nat → Value → Prop
  | 0, v => v = .slice (some ⟨b, o, none⟩) N c
  | 1, v => v = .int .i64 (k : Int)
  | 2, v => v = .pointer (some ⟨b, o + k * 5, none⟩)
  | 3, v => v = .agg #[.int .i64 y.x, .int .i64 y.y, .int .i64 y.d, .int .i64 y.t, .int .i64 y.f]
  | 4, v => v = .agg #[.int .i64 y.x, .int .i64 y.y, .int .i64 y.d, .int .i64 y.t]
  | 5, v => v = .agg #[.int .i64 (endX y.x y.d), .int .i64 (endY y.y y.d)]
  | 6, v => v = .agg #[.int .i64 s1, .int .i64 s2]
  | 7, v => v = .bool q
  | _, _ => True
theorem sReached (xs : List Hop) (s1 s2 : Int) (v : Value) (w : World) (hl : xs.length ≤ 1048576) (hr : RS 5 RHop w 0 xs v) (hsm : ∀ h ∈ xs, SmH h) :
    Calls Tryz.prog 27 #[v, .agg #[.int .i64 s1, .int .i64 s2]] w fun e w' => e = .returned (.bool (reachedB xs (s1, s2))) ∧ Below w.heap.size w w' := by
  rcases hr.open with ⟨rfl, a, c, rfl⟩ | ⟨b, o, c, rfl, hc, hn, _, hcs⟩
  · clear hr
    go_enter Tryz.func27, Tryz.ntmps27
    go_wp2
    refine wp_loop_rounds 1 ?_
    rw [rounds_succ]
    go_wp2
    exact bodyPost_ret (v := .bool false) (by simp [results, Tryz.results27, go_sem]) rfl ⟨rfl, bal (brf w) _⟩
  have HC := hide hcs
  have HSM := hide hsm
  obtain ⟨N, hN⟩ : ∃ N, xs.length = N := ⟨_, rfl⟩
  have HN := hide hN
  rw [hN] at hl ⊢
  clear hcs hr hc hn hsm hN
  go_enter Tryz.func27, Tryz.ntmps27
  go_wp2
  go_loopw [5] (fun i wr => ∃ k : Nat, k ≤ N ∧ i = .int .i64 k ∧ reachedB (xs.take k) (s1, s2) = false ∧ wr.cell? ⟨w.heap.size, 0, none⟩ = some (.int .i64 s1) ∧ wr.cell? ⟨w.heap.size, 1, none⟩ = some (.int .i64 s2) ∧ Below w.heap.size w wr) (fun i _ => N - (intOf i).toNat)
  case atStart => exact ⟨0, Nat.zero_le _, rfl, rfl, by rw [World.cell?_alloc_new]; rfl, by rw [World.cell?_alloc_new]; rfl, bal (brf w) _⟩
  case round =>
    obtain ⟨k, hk, rfl, hall, c0, c1, hb⟩ := hrel
    have HA := hide hall
    have HB := hide hb
    have HC0 := hide c0
    have HC1 := hide c1
    clear hall hb c0 c1
    by_cases hlt : k < N
    · have hx : xs[k]? = some (xs[k]'(by rw [unhide HN]; exact hlt)) := List.getElem?_eq_getElem _
      generalize xs[k]'(by rw [unhide HN]; exact hlt) = y at hx
      have HST := hide (reachedB_take hx (s1, s2))
      have HF : Hid (endH y = (s1, s2) → reachedB xs (s1, s2) = true) := hide (fun h => reachedB_mem hx h)
      obtain ⟨u, hul, hat, hus⟩ := unhide HC k y hx
      have HY1 := hide (unhide HSM y (List.mem_of_getElem? hx)).1
      have HY2 := hide (unhide HSM y (List.mem_of_getElem? hx)).2
      have HK : Hid (∀ V, Below wr.heap.size wr V → V.cell? ⟨b, o + k * 5, none⟩ = some (.int .i64 y.x) ∧ V.cell? ⟨b, o + k * 5 + 1, none⟩ = some (.int .i64 y.y) ∧ V.cell? ⟨b, o + k * 5 + 2, none⟩ = some (.int .i64 y.d) ∧ V.cell? ⟨b, o + k * 5 + 3, none⟩ = some (.int .i64 y.t) ∧ V.cell? ⟨b, o + k * 5 + 4, none⟩ = some (.int .i64 y.f)) := hide (fun V hV => by
        obtain ⟨k0, k1, k2, k3, k4⟩ := hop_cells hul hat hus
        have hbV := btr (unhide HB) hV
        exact ⟨cell_later hbV k0, cell_later hbV k1, cell_later hbV k2, cell_later hbV k3, cell_later hbV k4⟩)
      have i1 : (0 : Int) ≤ (k : Int) := by omega
      have i2 : (k : Int) < (N : Int) := by omega
      clear hat hul HC hx hus
      obtain ⟨q, hq⟩ : ∃ q, decide (endH y = (s1, s2)) = q := ⟨_, rfl⟩
      have HQ : Hid ((decide (endX y.x y.d = s1) && decide (endY y.y y.d = s2)) = q) := hide (by rw [← hq, ← Bool.decide_and]; exact decide_eq_decide.2 ⟨fun h => by unfold endH; rw [h.1, h.2], fun h => by unfold endH at h; injection h with h1 h2; exact ⟨h1, h2⟩⟩)
      have HQ2 := hide hq
      clear hq
      go_wp2
      refine wp_plan (GF (FRe b o N c k y s1 s2 q)) (JB wr) (by kernel_rfl) 20 (by kernel_rfl) (by kernel_rfl) ?hj ?hs ?hf
      case hj => exact bdr (brf wr)
      case hs =>
        refine ⟨?_, ?_, ?_, ?_, ?_, ?_, ?_, ?_, trivial⟩
        · exact st_val rfl (fun l a V hp ha => ⟨.slice (some ⟨b, o, none⟩) N c, by
            have x0 := (ev_form a 0).trans (old hp 0 (v := .slice (some ⟨b, o, none⟩) N c) (by kernel_rfl) (by kernel_rfl))
            go_simp, rfl⟩)
        · exact st_val rfl (fun l a V hp ha => ⟨.int .i64 (k : Int), by
            have x5 := (ev_form a 5).trans (old hp 5 (v := .int .i64 (k : Int)) (by kernel_rfl) (by kernel_rfl))
            go_simp, rfl⟩)
        · exact st_val rfl (fun l a V hp ha => ⟨.pointer (some ⟨b, o + k * 5, none⟩), by
            have x12 := (ev_form a 12).trans (show a.eval (.tmp 12) = .slice (some ⟨b, o, none⟩) N c from kn hp ha 12 0 (by kernel_rfl) (by kernel_rfl))
            have x13 := (ev_form a 13).trans (show a.eval (.tmp 13) = .int .i64 (k : Int) from kn hp ha 13 1 (by kernel_rfl) (by kernel_rfl))
            go_simp, rfl⟩)
        · exact st_val rfl (fun l a V hp ha => ⟨.agg #[.int .i64 y.x, .int .i64 y.y, .int .i64 y.d, .int .i64 y.t, .int .i64 y.f], by
            have x14 := (ev_form a 14).trans (show a.eval (.tmp 14) = .pointer (some ⟨b, o + k * 5, none⟩) from kn hp ha 14 2 (by kernel_rfl) (by kernel_rfl))
            obtain ⟨k0, k1, k2, k3, k4⟩ := unhide HK V hp.j
            go_simp, rfl⟩)
        · exact st_call (f := 22) rfl (fun l a V hp ha => ⟨#[.agg #[.int .i64 y.x, .int .i64 y.y, .int .i64 y.d, .int .i64 y.t, .int .i64 y.f]], by
            have x15 := (ev_form a 15).trans (show a.eval (.tmp 15) = .agg #[.int .i64 y.x, .int .i64 y.y, .int .i64 y.d, .int .i64 y.t, .int .i64 y.f] from kn hp ha 15 3 (by kernel_rfl) (by kernel_rfl))
            go_simp, (sHop y.x y.y y.d y.t y.f V).mono (by rintro e V1 ⟨rfl, hb⟩; exact ⟨_, rfl, rfl, hb⟩)⟩)
        · exact st_call (f := 25) rfl (fun l a V hp ha => ⟨#[.agg #[.int .i64 y.x, .int .i64 y.y, .int .i64 y.d, .int .i64 y.t]], by
            have x16 := (ev_form a 16).trans (show a.eval (.tmp 16) = .agg #[.int .i64 y.x, .int .i64 y.y, .int .i64 y.d, .int .i64 y.t] from kn hp ha 16 4 (by kernel_rfl) (by kernel_rfl))
            go_simp, (sEnd y.x y.y y.d y.t V (unhide HY1) (unhide HY2)).mono (by rintro e V1 ⟨rfl, hb⟩; exact ⟨_, rfl, rfl, hb⟩)⟩)
        · exact st_val rfl (fun l a V hp ha => ⟨.agg #[.int .i64 s1, .int .i64 s2], by
            have x3 := (ev_form a 3).trans (old hp 3 (v := .pointer (some ⟨w.heap.size, 0, none⟩)) (by kernel_rfl) (by kernel_rfl))
            have c0 := cell_later hp.j (unhide HC0); have c1 := cell_later hp.j (unhide HC1)
            go_simp, rfl⟩)
        · exact st_val rfl (fun l a V hp ha => ⟨.bool q, by
              have x17 := (ev_form a 17).trans (show a.eval (.tmp 17) = .agg #[.int .i64 (endX y.x y.d), .int .i64 (endY y.y y.d)] from kn hp ha 17 5 (by kernel_rfl) (by kernel_rfl))
              have x18 := (ev_form a 18).trans (show a.eval (.tmp 18) = .agg #[.int .i64 s1, .int .i64 s2] from kn hp ha 18 6 (by kernel_rfl) (by kernel_rfl))
              go_simp
              exact two_eq (f := fun z => Result.ok (Next.value (.bool z)) V) (unhide HQ), rfl⟩)
      case hf =>
        intro l a W1 hp hall
        have B1 : Hid (Below wr.heap.size wr W1) := hide hp.j
        have hv19 := hp.good 7 _ 19 rfl rfl (hall 7 (by decide))
        obtain ⟨us1, rfl, hus⟩ := putAll_of [12, 13, 14, 15, 16, 17, 18, 19] hp.nt hp.df (fun t ht => hp.keep t (dstIn (by kernel_rfl) ht))
        have hw19 : us1 19 = .bool q := by rw [hus 19]; exact hv19
        clear hp hall hus hv19
        simp only [putAll, List.foldl, Act.put, List.setIfInBounds_toArray, List.set_cons_zero, List.set_cons_succ, hw19]
        cases q
        · go_wp2
          go_roundw
          case rel => exact ⟨k + 1, by omega, by go_num, by rw [unhide HST, unhide HA, unhide HQ2]; rfl, cell_later (unhide B1) (unhide HC0), cell_later (unhide B1) (unhide HC1), btr (unhide HB) (unhide B1)⟩
          case measure => simp [intOf]; omega
        · go_wp2
          exact bodyPost_ret (v := .bool true) (by simp [results, Tryz.results27, go_sem]) rfl ⟨by rw [unhide HF (of_decide_eq_true (unhide HQ2))], btr (unhide HB) (unhide B1)⟩
    · obtain rfl : k = N := by omega
      clear HC
      go_wp2
      refine bodyPost_ret (v := .bool false) (by simp [results, Tryz.results27, go_sem]) rfl ⟨?_, unhide HB⟩
      have h := unhide HA
      rw [List.take_of_length_le (by rw [unhide HN]; exact Nat.le_refl _)] at h
      rw [h]
end Go.Proofs.YtlldfaniddbjaaaGreatDoor
