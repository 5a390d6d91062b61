/- The program's levels. -/
import Derived.Test.YtpkgcccbhfdaiabL0
namespace Go.Proofs.Ytpkgcccbhfdaiab
open Go Go.RowKit Gs
set_option linter.unusedVariables false
set_option linter.unusedSimpArgs false
set_option maxRecDepth 100000
theorem ints_at {B : Nat} {vs : List Int} {v : Value} {w : World} (hr : RS 1 RInt w B vs v) {k : Nat} {y : Int} (hx : vs[k]? = some y) : ∃ b o c, v = .slice (some ⟨b, o, none⟩) vs.length c ∧ w.cell? ⟨b, o + k, none⟩ = some (.int .i64 y) := by
  rcases hr.open with ⟨rfl, _⟩ | ⟨b, o, c, rfl, _, _, _, he⟩
  · simp at hx
  · obtain ⟨u, hu, hat, hux⟩ := he k y hx
    subst hux
    exact ⟨b, o, c, rfl, by simpa using hat.get (j := 0) rfl⟩
set_option maxHeartbeats 1600000 in
theorem iOf {B : Nat} (vs : List Int) (v : Value) (z : Int) (w : World) (hr : RS 1 RInt w B vs v) (h0 : 0 ≤ z) (hz : z < 2 * (vs.length : Int)) (hl : vs.length ≤ 4194304) :
    Calls Try.prog 22 #[v, .int .i64 z] w fun e w' => e = .returned (.int .i64 (lvl vs z)) ∧ w' = w := by
  obtain ⟨m, rfl⟩ : ∃ m : Nat, z = m := ⟨z.toNat, by omega⟩
  have hlt : m / 2 < vs.length := by omega
  have hx : vs[m / 2]? = some vs[m / 2] := List.getElem?_eq_getElem hlt
  obtain ⟨b, o, c, rfl, hc⟩ := ints_at hr hx
  have hv : lvl vs m = vs[m / 2] := by
    unfold lvl
    rw [show ((m : Int) / 2).toNat = m / 2 by omega, List.getD_eq_getElem?_getD, hx]; rfl
  rw [hv]
  generalize vs[m / 2] = y at *
  have i1 : (0 : Int) ≤ (m : Int) / 2 := by omega
  have i2 : (m : Int) / 2 < (vs.length : Int) := by omega
  clear hx hv hr
  go_enter Try.func22, Try.ntmps22
  go_wp2
  exact bodyPost_ret (v := .int .i64 y) (by simp [results, Try.results22, go_sem]) rfl ⟨rfl, rfl⟩
set_option maxHeartbeats 1600000 in
theorem iAbove {B : Nat} {N : Int} (vs : List Int) (v : Value) (x : AndG) (w : World) (hr : RS 1 RInt w B vs v) (ha0 : 0 ≤ x.a) (ha : x.a < 2 * (vs.length : Int)) (hb0 : 0 ≤ x.b) (hb : x.b < 2 * (vs.length : Int)) (hl : vs.length ≤ 4194304) (hN : LBd N vs) (hN0 : 0 ≤ N) (hN1 : N ≤ 4194304) :
    Calls Try.prog 41 #[v, .int .i64 x.a, .int .i64 x.b] w fun e w' => e = .returned (.int .i64 (abv vs x)) ∧ w' = w := by
  have HA := hide (iOf vs v x.a w hr ha0 ha hl)
  have HB := hide (iOf vs v x.b w hr hb0 hb hl)
  have h1 := hN.lvl hN0 x.a
  have h2 := hN.lvl hN0 x.b
  unfold abv
  generalize x.a = za at *
  generalize x.b = zb at *
  generalize lvl vs za = la at *
  generalize lvl vs zb = lb at *
  have j1 := h1.1
  have j2 := h1.2
  have j3 := h2.1
  have j4 := h2.2
  clear hr ha0 ha hb0 hb hl hN h1 h2
  have hm : (max la lb : Int) ≤ 4194304 := by omega
  have hm0 : (0 : Int) ≤ max la lb := by omega
  by_cases hle : la ≤ lb
  · have em : max la lb = lb := by omega
    rw [em]
    go_enter Try.func41, Try.ntmps41
    go_wp2_with (first
      | (go_at_call 22; refine (unhide HA).mono ?_; rintro e W1 ⟨rfl, rfl⟩; clear HA)
      | (go_at_call 22; refine (unhide HB).mono ?_; rintro e W1 ⟨rfl, rfl⟩; clear HB))
    all_goals exact bodyPost_ret (v := .int .i64 (1 + lb)) (by simp [results, Try.results41, go_sem]; try omega) rfl ⟨rfl, rfl⟩
  · have em : max la lb = la := by omega
    rw [em]
    go_enter Try.func41, Try.ntmps41
    go_wp2_with (first
      | (go_at_call 22; refine (unhide HA).mono ?_; rintro e W1 ⟨rfl, rfl⟩; clear HA)
      | (go_at_call 22; refine (unhide HB).mono ?_; rintro e W1 ⟨rfl, rfl⟩; clear HB))
    all_goals exact bodyPost_ret (v := .int .i64 (1 + la)) (by simp [results, Try.results41, go_sem]; try omega) rfl ⟨rfl, rfl⟩
end Go.Proofs.Ytpkgcccbhfdaiab
