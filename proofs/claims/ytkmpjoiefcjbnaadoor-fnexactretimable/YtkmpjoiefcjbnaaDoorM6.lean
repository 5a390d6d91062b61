/- widthOfAll: the kids' widths together. -/
import Derived.Test.YtkmpjoiefcjbnaaDoorMA
namespace Go.Proofs.YtkmpjoiefcjbnaaDoor
open Go.RowKit Gs
set_option linter.unusedVariables false
set_option maxRecDepth 100000
/-- A kid: an Ex of which the width alone is told. -/
def RKid : Rd Int := fun W B x u => u = [.int .i64 0, .int .i64 x, .int .i64 0, .bool false, .string ByteArray.empty, .slice none 0 0]
theorem RKid.keeps : Keeps RKid := fun _ _ _ _ _ _ h => h
theorem RKid.lowers : Lowers RKid := fun _ _ _ _ _ _ h => h
def sumI (xs : List Int) : Int := xs.foldl (· + ·) 0
theorem sumI_take {xs : List Int} {j : Nat} {x : Int} (h : xs[j]? = some x) : sumI (xs.take (j + 1)) = sumI (xs.take j) + x := by
  rw [List.take_add_one, h]; simp [sumI, List.foldl_append]
theorem sumI_bound {xs : List Int} {b : Int} (h : ∀ x ∈ xs, 0 ≤ x ∧ x ≤ b) : 0 ≤ sumI xs ∧ sumI xs ≤ xs.length * b := by
  unfold sumI
  suffices hh : ∀ (ys : List Int) (z : Int), (∀ x ∈ ys, 0 ≤ x ∧ x ≤ b) → z ≤ ys.foldl (· + ·) z ∧ ys.foldl (· + ·) z ≤ z + ys.length * b by
    have := hh xs 0 h; omega
  intro ys
  induction ys with
  | nil => intro z _; simp
  | cons y ys ih =>
    intro z hz
    have h1 := hz y (by simp)
    have h2 := ih (z + y) (fun x hx => hz x (by simp [hx]))
    simp only [List.foldl_cons, List.length_cons]
    have e : ((ys.length + 1 : Nat) : Int) * b = ys.length * b + b := by push_cast; rw [Int.add_mul]; simp
    rw [e]
    omega
/-- As the program adds: int64s that wrap. -/
def sumW (xs : List Int) : Int := xs.foldl (fun a x => wrap64 (a + x)) 0
theorem sumW_take {xs : List Int} {j : Nat} {x : Int} (h : xs[j]? = some x) : sumW (xs.take (j + 1)) = wrap64 (sumW (xs.take j) + x) := by
  rw [List.take_add_one, h]; simp [sumW, List.foldl_append]
theorem iWidthOfAll (xs : List Int) (v : Value) (w : World) (hr : RS 6 RKid w 0 xs v) :
    Calls Tryd.prog 95 #[v] w fun e w' => e = .returned (.int .i64 (sumW xs)) ∧ Below w.heap.size w w' := by
  rcases hr.open with ⟨rfl, a, c, rfl⟩ | ⟨b, o, c, rfl, hc, hn, _, hcs⟩
  · clear hr
    go_enter Tryd.func95, Tryd.ntmps95
    go_wp2
    go_loop [3, 8] (fun l i => l = .int .i64 0 ∧ i = .int .i64 0) (fun _ _ => 0)
    case atStart => exact ⟨rfl, rfl⟩
    case round =>
      obtain ⟨rfl, rfl⟩ := hrel
      go_wp2
      exact bodyPost_ret (v := .int .i64 0) (by simp [results, Tryd.results95, go_sem]) rfl ⟨rfl, brf _⟩
  · unfold maxLen at hn
    have HC := hide hcs
    clear hcs hr
    go_enter Tryd.func95, Tryd.ntmps95
    go_wp2
    go_loopw [3, 8] (fun l i wr => ∃ (j : Nat), j ≤ xs.length ∧ i = .int .i64 j ∧ l = .int .i64 (sumW (xs.take j)) ∧ Below w.heap.size w wr) (fun l i wr => xs.length - (intOf i).toNat)
    case atStart => exact ⟨0, Nat.zero_le _, rfl, rfl, brf _⟩
    case round =>
      obtain ⟨j, hj, rfl, rfl, hb⟩ := hrel
      by_cases hjn : j < xs.length
      · have hx : xs[j]? = some xs[j] := List.getElem?_eq_getElem hjn
        generalize xs[j] = x at hx
        obtain ⟨u, hul, hat, hrx⟩ := unhide HC j x hx
        have st := sumW_take hx
        unfold RKid at hrx
        subst hrx
        have k0 := cell_later hb (hat.get (j := 0) rfl)
        have k1 := cell_later hb (hat.get (j := 1) rfl)
        have k2 := cell_later hb (hat.get (j := 2) rfl)
        have k3 := cell_later hb (hat.get (j := 3) rfl)
        have k4 := cell_later hb (hat.get (j := 4) rfl)
        have k5 := cell_later hb (hat.get (j := 5) rfl)
        simp only [Nat.add_zero] at k0
        have HB := hide hb
        clear hb hat hul HC
        go_wp2
        refine ⟨⟨j + 1, by omega, by simp, ?_, bal (unhide HB) _⟩, ?_⟩
        · rw [st]
        · show xs.length - ((j : Int) + 1).toNat < xs.length - (j : Int).toNat
          omega
      · obtain rfl : j = xs.length := by omega
        have HB := hide hb
        clear hb HC
        go_wp2
        exact bodyPost_ret (v := .int .i64 (sumW xs)) (by simp [results, Tryd.results95, go_sem]) rfl ⟨rfl, unhide HB⟩
end Go.Proofs.YtkmpjoiefcjbnaaDoor
