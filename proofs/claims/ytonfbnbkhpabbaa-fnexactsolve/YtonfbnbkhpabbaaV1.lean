/- Blocks that are none of what is followed by: they stay, whatever is called. -/
import Derived.Test.YtonfbnbkhpabbaaP12
import Derived.Test.YtonfbnbkhpabbaaV0
import Derived.Test.YtonfbnbkhpabbaaS0
namespace Go.Proofs.Ytonfbnbkhpabbaa
open Go Go.RowKit Gs
set_option linter.unusedVariables false
structure Ap (n : Nat) (s : FS) (g : Nat) : Prop where
  b : g ≠ s.b
  vb : g ≠ s.vb
  ob : g ≠ s.ob
  mb : g ≠ s.mb
  tv : s.tv.ownBlock ≠ some g
  sv : ∀ p, p < 2 * n + 2 → (s.sv p).ownBlock ≠ some g
  ids : g ∉ s.ids
theorem FX.ap {n : Nat} {W : World} {s : FS} {q : Nat × Array Value × TypeId} (h : FX n W s q) : Ap n s q.1 := ⟨h.b, h.vb, h.ob, h.mb, h.tv, h.sv, h.ids⟩
/-- All that is none of it. -/
theorem allFX (n : Nat) (W : World) (s : FS) : ∃ F : List (Nat × Array Value × TypeId), (∀ q ∈ F, FX n W s q) ∧ ∀ (g : Nat) (o : Array Value) (t : TypeId), W.heap[g]? = some (.cells o t) → Ap n s g → (g, o, t) ∈ F := by
  have key : ∀ N, ∃ F : List (Nat × Array Value × TypeId), (∀ q ∈ F, FX n W s q) ∧ ∀ (g : Nat) (o : Array Value) (t : TypeId), g < N → W.heap[g]? = some (.cells o t) → Ap n s g → (g, o, t) ∈ F := by
    intro N
    induction N with
    | zero => exact ⟨[], (fun q hq => by cases hq), fun g o t hg => absurd hg (Nat.not_lt_zero _)⟩
    | succ N ih =>
      obtain ⟨F, h1, h2⟩ := ih
      by_cases he : ∃ (o : Array Value) (t : TypeId), W.heap[N]? = some (.cells o t) ∧ Ap n s N
      · obtain ⟨o, t, ho, ha⟩ := he
        refine ⟨(N, o, t) :: F, fun q hq => ?_, fun g o' t' hg hc hap => ?_⟩
        · rcases List.mem_cons.1 hq with rfl | hq
          · exact ⟨ho, ha.b, ha.vb, ha.ob, ha.mb, ha.tv, ha.sv, ha.ids⟩
          · exact h1 q hq
        · by_cases e : g = N
          · subst e
            rw [ho] at hc
            injection hc with hc
            injection hc with e1 e2 _
            subst e1 e2
            exact List.mem_cons_self
          · exact List.mem_cons_of_mem _ (h2 g o' t' (by omega) hc hap)
      · refine ⟨F, h1, fun g o' t' hg hc hap => ?_⟩
        by_cases e : g = N
        · subst e; exact absurd ⟨o', t', hc, hap⟩ he
        · exact h2 g o' t' (by omega) hc hap
  obtain ⟨F, h1, h2⟩ := key W.heap.size
  exact ⟨F, h1, fun g o t hc hap => h2 g o t (heap_lt hc) hc hap⟩
theorem FM.with {B n : Nat} {ex : Option Nat} {W : World} {s : FS} (h : FM B n ex W s) {F : List (Nat × Array Value × TypeId)} (hF : ∀ q ∈ F, FX n W s q) : FM B n ex W { s with fx := F } :=
  ⟨h.lo, h.hb, h.hv, h.ho, h.hm, h.ht, h.hw, h.hc, h.d1, h.d2, h.d3, h.d4, h.d5, h.lv, h.lm, h.hx, fun q hq => (by have z := hF q hq; exact ⟨z.at_, z.b, z.vb, z.ob, z.mb, z.tv, z.sv, z.ids⟩)⟩
theorem FM.bare {B n : Nat} {ex : Option Nat} {W : World} {s : FS} (h : FM B n ex W s) : FM B n ex W { s with fx := [] } := h.with (fun q hq => by cases hq)
/-- They stay, and they are none of it behind that. -/
def KA (n : Nat) (s : FS) (W : World) (s' : FS) (W' : World) : Prop := ∀ (g : Nat) (o : Array Value) (t : TypeId), W.heap[g]? = some (.cells o t) → Ap n s g → W'.heap[g]? = some (.cells o t) ∧ Ap n s' g
theorem KA.of {B n : Nat} {W W' : World} {s r : FS} {F : List (Nat × Array Value × TypeId)} (hF : ∀ (g : Nat) (o : Array Value) (t : TypeId), W.heap[g]? = some (.cells o t) → Ap n s g → (g, o, t) ∈ F) (h : FM B n none W' r) (hr : r.fx = F) : KA n s W r W' := fun g o t hc hap => by
  have z := h.fz (g, o, t) (by rw [hr]; exact hF g o t hc hap)
  exact ⟨z.at_, z.ap⟩
theorem KA.trans {n : Nat} {a b c : FS} {U V W : World} (h : KA n a U b V) (k : KA n b V c W) : KA n a U c W := fun g o t hc hap => by
  obtain ⟨h1, h2⟩ := h g o t hc hap
  exact k g o t h1 h2
theorem KA.refl (n : Nat) (s : FS) (W : World) : KA n s W s W := fun _ _ _ hc hap => ⟨hc, hap⟩
/-- A block that is new is none of it. -/
theorem Ap.new {B n : Nat} {W : World} {s : FS} (h : FM B n none W s) {g : Nat} (hg : W.heap.size ≤ g) : Ap n s g := by
  refine ⟨?_, ?_, ?_, ?_, ?_, ?_, ?_⟩
  · have := heap_lt h.hb; omega
  · have := heap_lt h.hv; omega
  · have := heap_lt h.ho; omega
  · have := heap_lt h.hm; omega
  · intro e
    obtain ⟨o', h2⟩ := own_ty h.ht e
    have := heap_lt h2; omega
  · intro p hp e
    obtain ⟨_, o', h2⟩ := h.d5 p _ hp e
    have := heap_lt h2; omega
  · intro e
    obtain ⟨_, o', h2, _⟩ := h.hc _ e
    have := heap_lt h2; omega
/-- Other blocks are written. -/
theorem FM.other {B n : Nat} {W W' : World} {s : FS} (h : FM B n none W s) (hk : ∀ (g : Nat) (o : Array Value) (t : TypeId), W.heap[g]? = some (.cells o t) → ¬ Ap n s g → W'.heap[g]? = some (.cells o t)) : FM B n none W' { s with fx := [] } := by
  refine ⟨h.lo, hk _ _ _ h.hb (fun a => a.b rfl), hk _ _ _ h.hv (fun a => a.vb rfl), hk _ _ _ h.ho (fun a => a.ob rfl), hk _ _ _ h.hm (fun a => a.mb rfl), ownsRow_keep h.ht (fun g o hg hc => hk _ _ _ hc (fun a => a.tv hg)), fun p hp he => ownsRow_keep (h.hw p hp he) (fun g o hg hc => hk _ _ _ hc (fun a => a.sv p hp hg)), fun i hi => ?_, h.d1, h.d2, h.d3, h.d4, fun p j hp hj => ?_, h.lv, h.lm, (fun p j he => by cases he), (fun q hq => by cases hq)⟩
  · obtain ⟨h1, cur, h2, h3⟩ := h.hc i hi
    exact ⟨h1, cur, hk _ _ _ h2 (fun a => a.ids hi), h3⟩
  · obtain ⟨h1, o, h2⟩ := h.d5 p j hp hj
    exact ⟨h1, o, hk _ _ _ h2 (fun a => a.sv p hp hj)⟩
theorem iAssumeA {B n : Nat} {w W : World} {s : FS} (h : FM B n none W s) (hbw : Below B w W) (hBW : B ≤ W.heap.size) (hvr : VR n s.t s.vs) (ht : TrOK n s.t) {l : Int} (hl : Lit n l) (hn : n ≤ 2048) (hop : Opn s.t l) : Calls Try.prog 43 #[.pointer (some ⟨s.b, 0, none⟩), .int .i64 l] W fun e w' => e = .returned (.bool true) ∧ Below B w w' ∧ W.heap.size ≤ w'.heap.size ∧ ∃ v', FM B n none w' { s with vs := put s.vs l, t := s.t ++ [l], tv := v', fx := [] } ∧ KA n s W { s with vs := put s.vs l, t := s.t ++ [l], tv := v', fx := [] } w' := by
  obtain ⟨F, h1, h2⟩ := allFX n W s
  refine (iAssume (h.with h1) hbw hBW hvr ht hl hn).mono ?_
  rintro e w' (⟨hm, _, _⟩ | ⟨hm, _, _⟩ | ⟨_, rfl, hb, hsz, v', hf⟩)
  · exact absurd hm hop.1
  · exact absurd hm hop.2
  · refine ⟨rfl, hb, hsz, v', hf.bare, ?_⟩
    have k := KA.of (s := s) h2 hf rfl
    exact fun g o t hc hap => by
      obtain ⟨k1, k2⟩ := k g o t hc hap
      exact ⟨k1, ⟨k2.b, k2.vb, k2.ob, k2.mb, k2.tv, k2.sv, k2.ids⟩⟩
theorem iTakeBackA {B n : Nat} {w W : World} {s : FS} (h : FM B n none W s) (hbw : Below B w W) (ht : TrOK n s.t) (m : Nat) (hm : m ≤ s.t.length) (hn : n ≤ 2048) : Calls Try.prog 47 #[.pointer (some ⟨s.b, 0, none⟩), .int .i64 (m : Int)] W fun e w' => e = .returned (.tuple #[]) ∧ Below B w w' ∧ ∃ v', FM B n none w' { s with vs := wipe s.vs (s.t.drop m), t := s.t.take m, tv := v', fol := m, fx := [] } ∧ KA n s W { s with vs := wipe s.vs (s.t.drop m), t := s.t.take m, tv := v', fol := m, fx := [] } w' := by
  obtain ⟨F, h1, h2⟩ := allFX n W s
  refine (iTakeBack (h.with h1) hbw ht m hm hn).mono ?_
  rintro e w' ⟨rfl, hb, v', hf⟩
  refine ⟨rfl, hb, v', hf.bare, ?_⟩
  have k := KA.of (s := s) h2 hf rfl
  exact fun g o t hc hap => by
    obtain ⟨k1, k2⟩ := k g o t hc hap
    exact ⟨k1, ⟨k2.b, k2.vb, k2.ob, k2.mb, k2.tv, k2.sv, k2.ids⟩⟩
theorem FR2.bare {s r : FS} (h : FR2 s r) : FR2 { s with fx := [] } { r with fx := [] } := ⟨h.b, h.vb, h.ob, h.mb, h.ms, h.rnd, h.brk, h.ids, h.ln, h.cap, h.t, rfl⟩
theorem iFollowA {ok : Prop} {B n : Nat} {w W : World} {s : FS} {Cl : List (List Int)} {A t0 : List Int} {tb : List (List Int)} (h : FO ok B n w W s Cl A t0 tb s W) (hn : n ≤ 2048) : Calls Try.prog 33 #[.pointer (some ⟨s.b, 0, none⟩)] W fun e w' => ∃ r, FO ok B n w W { s with fx := [] } Cl A t0 tb r w' ∧ KA n s W r w' ∧ ((e = .returned (.bool (!s.brk)) ∧ r.fol = r.t.length) ∨ (e = .returned (.bool false) ∧ (ok → Con Cl A))) := by
  obtain ⟨F, h1, h2⟩ := allFX n W s
  have h' : FO ok B n w W { s with fx := F } Cl A t0 tb { s with fx := F } W := ⟨h.fm.with h1, h.bl, h.sz, h.bw, FR2.refl _, h.fl, h.ls⟩
  refine (iFollow h' hn).mono ?_
  rintro e w' ⟨r, hr, hor⟩
  refine ⟨{ r with fx := [] }, ⟨hr.fm.bare, hr.bl, hr.sz, hr.bw, hr.fr.bare, hr.fl, hr.ls⟩, ?_, hor⟩
  have k := KA.of (s := s) h2 hr.fm hr.fr.fx
  exact fun g o t hc hap => by
    obtain ⟨k1, k2⟩ := k g o t hc hap
    exact ⟨k1, ⟨k2.b, k2.vb, k2.ob, k2.mb, k2.tv, k2.sv, k2.ids⟩⟩
end Go.Proofs.Ytonfbnbkhpabbaa
namespace Go.Proofs.Ytonfbnbkhpabbaa
open Go Go.RowKit Gs
set_option linter.unusedVariables false
set_option linter.unusedSimpArgs false
set_option maxRecDepth 100000
/-- Where a list has its first 0. -/
def IX (xs : List Int) (r : Int) : Prop := (∃ i : Nat, r = (i : Int) ∧ xs[i]? = some 0 ∧ ∀ j z, j < i → xs[j]? = some z → z ≠ 0) ∨ (r = -1 ∧ ∀ (j : Nat) z, xs[j]? = some z → z ≠ 0)
set_option maxHeartbeats 3200000 in
theorem iIndex (xs : List Int) (v : Value) (w : World) (hl : xs.length ≤ 1048576) (hr : RS 1 RInt w 0 xs v) :
    Calls Try.prog 46 #[v, .int .i64 0] w fun e w' => (∃ r : Int, e = .returned (.int .i64 r) ∧ IX xs r) ∧ w' = w := by
  rcases hr.open with ⟨rfl, a, c, rfl⟩ | ⟨b, o, c, rfl, hc, hn, _, hcs⟩
  · clear hr
    go_enter Try.func46, Try.ntmps46
    go_wp2
    refine wp_loop_rounds 1 ?_
    rw [rounds_succ]
    go_wp2
    exact bodyPost_ret (v := .int .i64 (-1)) (by simp [results, Try.results46, go_sem]) rfl ⟨⟨_, rfl, .inr ⟨rfl, fun j z hz => by simp at hz⟩⟩, rfl⟩
  · have HC := hide hcs
    clear hcs hr hc hn
    go_enter Try.func46, Try.ntmps46
    go_wp2
    go_loop [8] (fun i => ∃ k : Nat, k ≤ xs.length ∧ i = .int .i64 k ∧ ∀ j z, j < k → xs[j]? = some z → z ≠ 0) (fun i => xs.length - (intOf i).toNat)
    case atStart => exact ⟨0, Nat.zero_le _, rfl, fun j z hj => absurd hj (Nat.not_lt_zero _)⟩
    case round =>
      obtain ⟨k, hk, rfl, hall⟩ := hrel
      have HA := hide hall
      clear hall
      by_cases hlt : k < xs.length
      · have hx : xs[k]? = some xs[k] := List.getElem?_eq_getElem hlt
        generalize xs[k] = y at hx
        obtain ⟨u, hul, hat, hus⟩ := unhide HC k y hx
        subst hus
        have k0 := hat.get (j := 0) rfl
        simp only [Nat.add_zero, Nat.mul_one] at k0
        have i1 : (0 : Int) ≤ (k : Int) := by omega
        have i2 : (k : Int) < (xs.length : Int) := by omega
        have HX := hide hx
        clear hat hul HC hx
        by_cases e : (0 : Int) = y
        · subst e
          go_wp2
          exact bodyPost_ret (v := .int .i64 (k : Int)) (by simp [results, Try.results46, go_sem]) rfl ⟨⟨_, rfl, .inl ⟨k, rfl, unhide HX, unhide HA⟩⟩, rfl⟩
        · have HNX : Hid (∀ j z, j < k + 1 → xs[j]? = some z → z ≠ 0) := hide (fun j z hj hz => by
            by_cases ej : j = k
            · subst ej; rw [unhide HX] at hz; cases hz; exact fun h => e h.symm
            · exact unhide HA j z (by omega) hz)
          go_wp2
          go_round
          case rel => exact ⟨k + 1, by omega, by go_num, unhide HNX⟩
          case measure => simp [intOf]; omega
      · obtain rfl : k = xs.length := by omega
        clear HC
        go_wp2
        exact bodyPost_ret (v := .int .i64 (-1)) (by simp [results, Try.results46, go_sem]) rfl ⟨⟨_, rfl, .inr ⟨rfl, fun j z hz => unhide HA j z (List.getElem?_eq_some_iff.1 hz).1 hz⟩⟩, rfl⟩
/-- The least variable that is not assumed, or 0. -/
def LO (n : Nat) (vs : List Int) (z : Int) : Prop := (z = 0 ∧ ∀ u, 1 ≤ u → u ≤ n → vs.getD u 0 ≠ 0) ∨ ∃ v : Nat, z = (v : Int) ∧ 1 ≤ v ∧ v ≤ n ∧ vs.getD v 0 = 0 ∧ ∀ u, 1 ≤ u → u < v → vs.getD u 0 ≠ 0
theorem LO.of {n : Nat} {vs : List Int} (hl : vs.length = n + 1) {r : Int} (h : IX (vs.drop 1) r) : LO n vs (1 + r) := by
  have get : ∀ u, 1 ≤ u → u ≤ n → (vs.drop 1)[u - 1]? = some (vs.getD u 0) := fun u h1 h2 => by
    rw [List.getElem?_drop, show 1 + (u - 1) = u by omega, List.getD_eq_getElem?_getD, List.getElem?_eq_getElem (by omega)]; rfl
  rcases h with ⟨i, rfl, h1, h2⟩ | ⟨rfl, h1⟩
  · have hi := (List.getElem?_eq_some_iff.1 h1).1
    rw [List.length_drop] at hi
    refine .inr ⟨i + 1, by omega, by omega, by omega, ?_, fun u hu hui => h2 (u - 1) _ (by omega) (get u hu (by omega))⟩
    have := get (i + 1) (by omega) (by omega)
    rw [show i + 1 - 1 = i by omega, h1] at this
    injection this with e
    exact e.symm
  · exact .inl ⟨by omega, fun u h2 h3 => h1 _ _ (get u h2 h3)⟩
set_option maxHeartbeats 3200000 in
theorem iLeast {B n sb : Nat} {W : World} {s : FS} (h : FM B n none W s) (hc : W.cell? ⟨sb, 0, none⟩ = some (.pointer (some ⟨s.b, 0, none⟩))) (hn : n ≤ 2048) : Calls Try.prog 34 #[.pointer (some ⟨sb, 0, none⟩)] W fun e w' => (∃ z, e = .returned (.int .i64 z) ∧ LO n s.vs z) ∧ w' = W := by
  have q0 := h.q0
  have hlv := h.lv
  have HL := hide (fun (r : Int) (hx : IX (s.vs.drop 1) r) => LO.of hlv hx)
  have rd : ∀ (a : Option Addr) (c : Nat), n ≤ c → (1 ≤ n → a = some ⟨s.vb, 1, none⟩) → RS 1 RInt W 0 (s.vs.drop 1) (.slice a n c) := fun a c hcn ha => by
    refine ⟨a, c, ?_, by rw [List.length_drop]; omega, by rw [List.length_drop]; unfold maxLen; omega, fun hne => ?_⟩
    · rw [List.length_drop, hlv]; rfl
    · have hn1 : 1 ≤ n := by
        rcases Nat.eq_zero_or_pos n with e | e
        · exact absurd (List.length_eq_zero_iff.1 (by rw [List.length_drop]; omega)) hne
        · exact e
      refine ⟨s.vb, 1, ha hn1, Nat.zero_le _, fun i x hx => ⟨[.int .i64 x], rfl, fun j y hj => ?_, rfl⟩⟩
      have hj0 : j = 0 := by
        cases j with
        | zero => rfl
        | succ j => simp at hj
      subst hj0
      simp at hj
      subst hj
      rw [List.getElem?_drop] at hx
      have := iC_cell h.hv hx
      simpa using this
  have HC : Hid (∀ (a : Option Addr) (c : Nat), n ≤ c → (1 ≤ n → a = some ⟨s.vb, 1, none⟩) → Calls Try.prog 46 #[.slice a n c, .int .i64 0] W fun e w' => (∃ r : Int, e = .returned (.int .i64 r) ∧ IX (s.vs.drop 1) r) ∧ w' = W) := hide (fun a c h1 h2 => iIndex _ _ W (by rw [List.length_drop]; omega) (rd a c h1 h2))
  have hrange : ∀ r, IX (s.vs.drop 1) r → -1 ≤ r ∧ r ≤ 2048 := fun r hx => by
    rcases hx with ⟨i, rfl, h1, _⟩ | ⟨rfl, _⟩
    · have := (List.getElem?_eq_some_iff.1 h1).1
      rw [List.length_drop] at this; omega
    · omega
  have HRG := hide hrange
  clear h rd hrange
  go_enter Try.func34, Try.ntmps34
  rcases Nat.eq_zero_or_pos n with e | e
  · subst e
    go_wp2_with fail
    refine (unhide HC _ 0 (Nat.le_refl _) (fun h => absurd h (by decide))).mono ?_
    rintro e W1 ⟨⟨r, rfl, hx⟩, hw⟩
    have hw' := hw.symm
    subst hw'
    obtain ⟨r1, r2⟩ := unhide HRG r hx
    have HX := hide (unhide HL r hx)
    clear hx
    go_wp2
    exact bodyPost_ret (v := .int .i64 (1 + r)) (by simp [results, Try.results34, go_sem]) rfl ⟨⟨_, rfl, unhide HX⟩, rfl⟩
  · have e1 : (1 : Int) ≤ ((n + 1 : Nat) : Int) := by omega
    have e2 : n + 1 - 1 = n := by omega
    go_wp2_with fail
    first
      | refine (unhide HC _ n (Nat.le_refl _) (fun _ => rfl)).mono ?_
      | (trace_state; fail)
    rintro e W1 ⟨⟨r, rfl, hx⟩, hw⟩
    have hw' := hw.symm
    subst hw'
    obtain ⟨r1, r2⟩ := unhide HRG r hx
    have HX := hide (unhide HL r hx)
    clear hx
    go_wp2
    exact bodyPost_ret (v := .int .i64 (1 + r)) (by simp [results, Try.results34, go_sem]) rfl ⟨⟨_, rfl, unhide HX⟩, rfl⟩
end Go.Proofs.Ytonfbnbkhpabbaa
namespace Go.Proofs.Ytonfbnbkhpabbaa
open Go Go.RowKit Gs
set_option linter.unusedVariables false
set_option linter.unusedSimpArgs false
set_option maxRecDepth 100000
/-- Slices that lie in blocks of their own, one behind the other, from B up to E. -/
def RI (W : World) : Nat → Nat → List (List Int) → List Value → Prop
  | B, E, [], [] => B ≤ E
  | B, E, x :: xs, u :: us => ∃ b, u = .slice (some ⟨b, 0, none⟩) x.length x.length ∧ B ≤ b ∧ W.heap[b]? = some (.cells (iC x) 3) ∧ RI W (b + 1) E xs us
  | _, _, [], _ :: _ => False
  | _, _, _ :: _, [] => False
theorem RI.le {W : World} : ∀ {B E : Nat} (xs : List (List Int)) (us : List Value), RI W B E xs us → B ≤ E
  | _, _, [], [], h => h
  | B, E, x :: xs, u :: us, h => by
    obtain ⟨b, _, hb, _, hr⟩ := h
    have := RI.le xs us hr
    omega
  | _, _, [], _ :: _, h => h.elim
  | _, _, _ :: _, [], h => h.elim
theorem RI.keep {W W' : World} : ∀ {B E : Nat} (xs : List (List Int)) (us : List Value), (∀ b o, B ≤ b → b < E → W.heap[b]? = some (.cells o 3) → W'.heap[b]? = some (.cells o 3)) → RI W B E xs us → RI W' B E xs us
  | _, _, [], [], _, h => h
  | B, E, x :: xs, u :: us, k, h => by
    obtain ⟨b, h1, hb, h2, hr⟩ := h
    have := RI.le xs us hr
    exact ⟨b, h1, hb, k b _ hb (by omega) h2, RI.keep xs us (fun c o hc he ho => k c o (by omega) he ho) hr⟩
  | _, _, [], _ :: _, _, h => h.elim
  | _, _, _ :: _, [], _, h => h.elim
theorem RI.up {W : World} : ∀ {B E E' : Nat} (xs : List (List Int)) (us : List Value), E ≤ E' → RI W B E xs us → RI W B E' xs us
  | _, _, _, [], [], e, h => Nat.le_trans h e
  | B, E, E', x :: xs, u :: us, e, h => by
    obtain ⟨b, h1, hb, h2, hr⟩ := h
    exact ⟨b, h1, hb, h2, RI.up xs us e hr⟩
  | _, _, _, [], _ :: _, _, h => h.elim
  | _, _, _, _ :: _, [], _, h => h.elim
theorem RI.low {W : World} {B B' E : Nat} : ∀ (xs : List (List Int)) (us : List Value), B' ≤ B → RI W B E xs us → RI W B' E xs us
  | [], [], e, h => Nat.le_trans e h
  | x :: xs, u :: us, e, h => by
    obtain ⟨b, h1, hb, h2, hr⟩ := h
    exact ⟨b, h1, Nat.le_trans e hb, h2, hr⟩
  | [], _ :: _, _, h => h.elim
  | _ :: _, [], _, h => h.elim
theorem RI.append {W : World} : ∀ {B E E' : Nat} (xs ys : List (List Int)) (us vs : List Value), RI W B E xs us → RI W E E' ys vs → RI W B E' (xs ++ ys) (us ++ vs)
  | _, _, _, [], ys, [], vs, h, k => RI.low ys vs h k
  | B, E, E', x :: xs, ys, u :: us, vs, h, k => by
    obtain ⟨b, h1, hb, h2, hr⟩ := h
    exact ⟨b, h1, hb, h2, RI.append xs ys us vs hr k⟩
  | _, _, _, [], _, _ :: _, _, h, _ => h.elim
  | _, _, _, _ :: _, _, [], _, h, _ => h.elim
theorem RI.len {W : World} : ∀ {B E : Nat} (xs : List (List Int)) (us : List Value), RI W B E xs us → us.length = xs.length
  | _, _, [], [], _ => rfl
  | B, E, x :: xs, u :: us, h => by
    obtain ⟨b, _, _, _, hr⟩ := h
    simp [RI.len xs us hr]
  | _, _, [], _ :: _, h => h.elim
  | _, _, _ :: _, [], h => h.elim
theorem RI.at {W : World} : ∀ {B E : Nat} (xs : List (List Int)) (us : List Value), RI W B E xs us → ∀ (i : Nat) x, xs[i]? = some x → ∃ b, us[i]? = some (.slice (some ⟨b, 0, none⟩) x.length x.length) ∧ B ≤ b ∧ b < E ∧ W.heap[b]? = some (.cells (iC x) 3)
  | _, _, [], [], _, i, x, hx => by simp at hx
  | B, E, y :: xs, u :: us, h, i, x, hx => by
    obtain ⟨b, h1, hb, h2, hr⟩ := h
    have hle := RI.le xs us hr
    cases i with
    | zero => simp at hx; subst hx; exact ⟨b, by simp [h1], hb, by omega, h2⟩
    | succ i =>
      obtain ⟨c, q1, q2, q3, q4⟩ := RI.at xs us hr i x (by simpa using hx)
      exact ⟨c, by simpa using q1, by omega, q3, q4⟩
  | _, _, [], _ :: _, h, _, _, _ => h.elim
  | _, _, _ :: _, [], h, _, _, _ => h.elim
theorem RI.kept {W W' : World} : ∀ {B E : Nat} (xs : List (List Int)) (us : List Value), (∀ u ∈ us, ∀ (g : Nat) (o : Array Value), u.ownBlock = some g → W.heap[g]? = some (.cells o 3) → W'.heap[g]? = some (.cells o 3)) → RI W B E xs us → RI W' B E xs us
  | _, _, [], [], _, h => h
  | B, E, x :: xs, u :: us, k, h => by
    obtain ⟨b, h1, hb, h2, hr⟩ := h
    exact ⟨b, h1, hb, k u List.mem_cons_self b _ (by rw [h1]; rfl) h2, RI.kept xs us (fun c hc => k c (List.mem_cons_of_mem _ hc)) hr⟩
  | _, _, [], _ :: _, _, h => h.elim
  | _, _, _ :: _, [], _, h => h.elim
/-- Decisions as cells. -/
def dC (ds : List (Int × Nat)) : List Value := ds.flatMap fun d => [.int .i64 d.1, .int .i64 (d.2 : Int)]
def dL (ds : List (Int × Nat)) : List Int := ds.map Prod.fst
def SVC (b : Nat) (dv tv : Value) (k : Nat) : Array Value := #[.pointer (some ⟨b, 0, none⟩), dv, tv, .int .i64 (k : Int)]
structure SV (B n E : Nat) (W : World) (s : FS) (sb : Nat) (dv tv : Value) (vals : List Value) (ds : List (Int × Nat)) (T : List (List Int)) (k : Nat) : Prop where
  lo : B ≤ sb
  hs : W.heap[sb]? = some (.cells (SVC s.b dv tv k) 46)
  hd : W.ownsRow B 72 2 dv ds.length (dC ds)
  ht : W.ownsRow B 24 1 tv T.length vals
  hi : RI W B E T vals
  he : E ≤ W.heap.size
  ps : Ap n s sb
  pd : ∀ g, dv.ownBlock = some g → Ap n s g
  pt : ∀ g, tv.ownBlock = some g → Ap n s g
  pi : ∀ u ∈ vals, ∀ g, u.ownBlock = some g → Ap n s g
section
variable {B n E : Nat} {W W' : World} {s s' : FS} {sb : Nat} {dv tv : Value} {vals : List Value} {ds : List (Int × Nat)} {T : List (List Int)} {k : Nat}
theorem SV.cell (h : SV B n E W s sb dv tv vals ds T k) (i : Nat) (v : Value) (hi : (SVC s.b dv tv k)[i]? = some v) : W.cell? ⟨sb, i, none⟩ = some v := by
  simp only [World.cell?, h.hs]; exact hi
theorem SV.c0 (h : SV B n E W s sb dv tv vals ds T k) : W.cell? ⟨sb, 0, none⟩ = some (.pointer (some ⟨s.b, 0, none⟩)) := h.cell 0 _ rfl
theorem SV.c1 (h : SV B n E W s sb dv tv vals ds T k) : W.cell? ⟨sb, 1, none⟩ = some dv := h.cell 1 _ rfl
theorem SV.c2 (h : SV B n E W s sb dv tv vals ds T k) : W.cell? ⟨sb, 2, none⟩ = some tv := h.cell 2 _ rfl
theorem SV.c3 (h : SV B n E W s sb dv tv vals ds T k) : W.cell? ⟨sb, 3, none⟩ = some (.int .i64 (k : Int)) := h.cell 3 _ rfl
theorem SV.frz (h : SV B n E W s sb dv tv vals ds T k) (i : Nat) : W.frozen? ⟨sb, i, none⟩ = false := by simp [World.frozen?, h.hs]
/-- Calls of what it follows by leave it as it is. -/
theorem SV.call (h : SV B n E W s sb dv tv vals ds T k) (hk : KA n s W s' W') (hb : s'.b = s.b) (hz : W.heap.size ≤ W'.heap.size) : SV B n E W' s' sb dv tv vals ds T k := by
  have k1 := hk _ _ _ h.hs h.ps
  refine ⟨h.lo, by rw [hb]; exact k1.1, ownsRow_keep h.hd (fun g o hg hc => (hk g o _ hc (h.pd g hg)).1), ownsRow_keep h.ht (fun g o hg hc => (hk g o _ hc (h.pt g hg)).1), RI.kept T vals (fun u hu g o hg hc => (hk g o _ hc (h.pi u hu g hg)).1) h.hi, Nat.le_trans h.he hz, k1.2, fun g hg => ?_, fun g hg => ?_, fun u hu g hg => ?_⟩
  · obtain ⟨o, ho⟩ := own_ty h.hd hg
    exact (hk g o _ ho (h.pd g hg)).2
  · obtain ⟨o, ho⟩ := own_ty h.ht hg
    exact (hk g o _ ho (h.pt g hg)).2
  · obtain ⟨i, hi, e⟩ := List.mem_iff_getElem.1 hu
    have hl := RI.len T vals h.hi
    obtain ⟨b, q1, q2, q3, q4⟩ := RI.at T vals h.hi i _ (List.getElem?_eq_getElem (by omega))
    rw [List.getElem?_eq_getElem hi, e] at q1
    injection q1 with q1
    rw [q1] at hg
    have : some b = some g := hg
    injection this with e2
    subst e2
    exact (hk b _ _ q4 (h.pi u hu b (by rw [q1]; rfl))).2
/-- Blocks that are new do not touch it. -/
theorem SV.later (h : SV B n E W s sb dv tv vals ds T k) (hb : Below W.heap.size W W') : SV B n E W' s sb dv tv vals ds T k := h.call (fun g o t hc hap => ⟨(hb.block g (heap_lt hc)).trans hc, hap⟩) rfl hb.size
theorem SV.bare (h : SV B n E W s sb dv tv vals ds T k) (e1 : s'.b = s.b) (e2 : s'.vb = s.vb) (e3 : s'.ob = s.ob) (e4 : s'.mb = s.mb) (e5 : s'.tv = s.tv) (e6 : s'.sv = s.sv) (e7 : s'.ids = s.ids) : SV B n E W s' sb dv tv vals ds T k := h.call (fun g o t hc a => ⟨hc, ⟨by rw [e1]; exact a.b, by rw [e2]; exact a.vb, by rw [e3]; exact a.ob, by rw [e4]; exact a.mb, by rw [e5]; exact a.tv, by rw [e6]; exact a.sv, by rw [e7]; exact a.ids⟩⟩) e1 (Nat.le_refl _)
/-- The work is counted. -/
theorem SV.work (h : SV B n E W s sb dv tv vals ds T k) : SV B n E (W.setCell ⟨sb, 3, none⟩ (.int .i64 ((k : Int) + 1))) s sb dv tv vals ds T (k + 1) := by
  have ho : ∀ (g : Nat) (o : Array Value) (t : TypeId), t ≠ 46 → W.heap[g]? = some (.cells o t) → (W.setCell ⟨sb, 3, none⟩ (.int .i64 ((k : Int) + 1))).heap[g]? = some (.cells o t) := fun g o t hne hc => (Below.heap_setCell W ⟨sb, 3, none⟩ _ g (ty_ne hc h.hs hne)).trans hc
  exact ⟨h.lo, by rw [heap_set h.hs]; rfl, ownsRow_keep h.hd (fun g o _ hc => ho _ _ _ (by decide) hc), ownsRow_keep h.ht (fun g o _ hc => ho _ _ _ (by decide) hc), RI.kept T vals (fun u hu g o _ hc => ho _ _ _ (by decide) hc) h.hi, by simpa using h.he, h.ps, h.pd, h.pt, h.pi⟩
theorem FM.mine {B n : Nat} {W : World} {s : FS} (h : FM B n none W s) {g : Nat} (hg : Ap n s g) (i : Nat) (v : Value) : FM B n none (W.setCell ⟨g, i, none⟩ v) { s with fx := [] } := h.other (fun k o t hc hn => (Below.heap_setCell W ⟨g, i, none⟩ v k (fun e => hn (e ▸ hg))).trans hc)
end
end Go.Proofs.Ytonfbnbkhpabbaa
