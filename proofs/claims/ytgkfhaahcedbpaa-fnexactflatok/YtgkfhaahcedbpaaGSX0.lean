/- A world behind one that boxed some cells. -/
import Derived.Test.YtgkfhaahcedbpaaGI1
import Derived.Test.YtgkfhaahcedbpaaGGS2
import Derived.Test.YtgkfhaahcedbpaaGSH1
import Derived.Test.YtgkfhaahcedbpaaSH2
namespace Go.Proofs.Ytgkfhaahcedbpaa
open Go.RowKit Gs
set_option linter.unusedVariables false
def Bt (t : TypeId) (w : World) (vs : Array Value) (W : World) : Prop := Below (w.alloc (.cells vs t)).heap.size (w.alloc (.cells vs t)) W
theorem Bt.get {t : TypeId} {w W : World} {vs : Array Value} (h : Bt t w vs W) {j : Nat} {y : Value} (hj : vs[j]? = some y) : W.cell? ⟨w.heap.size, j, none⟩ = some y :=
  cell_later h (by rw [World.cell?_alloc_new]; exact hj)
theorem Bt.below {t : TypeId} {w W : World} {vs : Array Value} (h : Bt t w vs W) : Below w.heap.size w W := btr (bal (brf w) _) h
theorem Bt.then {t : TypeId} {w W V : World} {vs : Array Value} (h : Bt t w vs W) (hb : Below W.heap.size W V) : Bt t w vs V := btr h hb
theorem Bt.alloc {t : TypeId} {w W : World} {vs : Array Value} (h : Bt t w vs W) (o : Obj) : Bt t w vs (W.alloc o) := bal h o
theorem Bt.drew {t : TypeId} {w W : World} {vs : Array Value} (h : Bt t w vs W) : Bt t w vs W.drew := bdr h
theorem Bt.refl (t : TypeId) (w : World) (vs : Array Value) : Bt t w vs (w.alloc (.cells vs t)) := brf _
theorem Bt.size {t : TypeId} {w W : World} {vs : Array Value} (h : Bt t w vs W) : w.heap.size < W.heap.size := by
  have := Below.size h
  have e : (w.alloc (.cells vs t)).heap.size = w.heap.size + 1 := by go_simp
  omega
theorem Bt.get6 {t : TypeId} {w W : World} {v0 v1 v2 v3 v4 v5 : Value} (h : Bt t w #[v0, v1, v2, v3, v4, v5] W) : W.cell? ⟨w.heap.size, 0, none⟩ = some v0 ∧ W.cell? ⟨w.heap.size, 1, none⟩ = some v1 ∧ W.cell? ⟨w.heap.size, 2, none⟩ = some v2 ∧ W.cell? ⟨w.heap.size, 3, none⟩ = some v3 ∧ W.cell? ⟨w.heap.size, 4, none⟩ = some v4 ∧ W.cell? ⟨w.heap.size, 5, none⟩ = some v5 :=
  ⟨h.get rfl, h.get rfl, h.get rfl, h.get rfl, h.get rfl, h.get rfl⟩
end Go.Proofs.Ytgkfhaahcedbpaa
namespace Go.Proofs.Ytgkfhaahcedbpaa
open Go.RowKit Gs
set_option linter.unusedVariables false
set_option maxRecDepth 100000
theorem sumI_take_bound {xs : List Int} (h : ∀ x ∈ xs, 0 ≤ x ∧ x ≤ 64) (hl : xs.length ≤ 1048576) (k : Nat) : 0 ≤ sumI (xs.take k) ∧ sumI (xs.take k) ≤ 67108864 := by
  have h1 := sumI_bound (xs := xs.take k) (b := 64) (fun x hx => h x (List.mem_of_mem_take hx))
  have h2 : (xs.take k).length ≤ 1048576 := by rw [List.length_take]; omega
  omega
set_option maxHeartbeats 8000000 in
theorem sSh26 (width n : Int) (sg : Bool) (s : ByteArray) (xs : List Int) (v : Value) (p : Value) (w : World) (hx : ∀ x ∈ xs, 0 ≤ x ∧ x ≤ 64) (hl : xs.length ≤ 1048576) (hr : RS 6 RKz w 0 xs v) :
    Calls Try.prog 35 #[p, .agg #[.int .i64 26, .int .i64 width, .int .i64 n, .bool sg, .string s, v]] w fun e w' => e = .returned (.bool (sumI xs == width)) ∧ Below w.heap.size w w' := by
  have SB := hide (sumI_take_bound hx hl)
  have HX := hide hx
  clear hx
  obtain ⟨a, c, rfl, hk⟩ := kzs_open hr
  clear hr
  have HK := hide hk
  clear hk
  go_enter Try.func35, Try.ntmps35
  go_wp2
  go_loopw [7, 8] (fun t i wr => ∃ k : Nat, k ≤ xs.length ∧ i = .int .i64 k ∧ t = .int .i64 (sumI (xs.take k)) ∧ Bt 72 w #[.int .i64 26, .int .i64 width, .int .i64 n, .bool sg, .string s, .slice a xs.length c] wr) (fun _ i _ => xs.length - (intOf i).toNat)
  case atStart => exact ⟨0, Nat.zero_le _, rfl, rfl, Bt.refl _ _ _⟩
  case round =>
    obtain ⟨k, hk, rfl, rfl, hbx⟩ := hrel
    obtain ⟨q0, q1, q2, q3, q4, q5⟩ := hbx.get6
    by_cases hlt : k < xs.length
    · have hx : xs[k]? = some xs[k] := List.getElem?_eq_getElem hlt
      have hmem : xs[k] ∈ xs := List.getElem_mem hlt
      generalize xs[k] = x at hx hmem
      obtain ⟨b, o, rfl, hc, _⟩ := unhide HK k x hx
      have l0 := cell_later hbx.below hc
      have hst := sumI_take hx
      have hb1 := unhide SB k
      have hb2 := unhide SB (k + 1)
      rw [hst] at hb2
      have HST := hide hst
      have HX2 := hide hbx
      have hwr : IntKind.i64.wrap (sumI (xs.take k) + x) = sumI (xs.take k) + x := by rw [IntKind.wrap_i64]; omega
      clear hst hx hmem hbx HK hc
      generalize sumI (xs.take k) = T at *
      go_wp2
      refine ⟨⟨k + 1, by omega, by go_num, ?_, unhide HX2⟩, by simp [intOf]; omega⟩
      rw [unhide HST]
    · obtain rfl : k = xs.length := by omega
      rw [List.take_of_length_le (Nat.le_refl _)]
      have HX2 := hide hbx
      clear hbx HK
      go_wp2
      go_ret
      exact ⟨rfl, (unhide HX2).below⟩
end Go.Proofs.Ytgkfhaahcedbpaa
namespace Go.Proofs.Ytgkfhaahcedbpaa
open Go.RowKit Gs
set_option linter.unusedVariables false
def sh2 (f : Int → Int → Bool) : List Int → Bool
  | [x, y] => f x y
  | _ => false
def sh1 (f : Int → Bool) : List Int → Bool
  | [x] => f x
  | _ => false
def sh3 (f : Int → Int → Int → Bool) : List Int → Bool
  | [x, y, z] => f x y z
  | _ => false
def shapeB (op width n : Int) (sg : Bool) (s : ByteArray) (xs : List Int) : Bool :=
  if op < 1 then false
  else if op ≤ 8 then sh2 (fun x y => (x == width) && (y == width)) xs
  else if op ≤ 13 then sh2 (fun x y => (x == y) && (width == 1)) xs
  else if op ≤ 16 then sh2 (fun x _ => x == width) xs
  else if op ≤ 18 then sh2 (fun _ _ => width == 1) xs
  else if op ≤ 20 then sh1 (fun x => x == width) xs
  else if op ≤ 24 then sh1 (fun _ => width == 1) xs
  else if op = 25 then sh3 (fun _ y z => (y == width) && (z == width)) xs
  else if op = 26 then sumI xs == width
  else if op = 27 then sh1 (fun x => decide (0 ≤ n) && decide (n ≤ 64) && decide (n + width ≤ x)) xs
  else if op = 28 then sh1 (fun x => (x != width) && (!sg || decide (x < width))) xs
  else if op = 29 then decide (xs.length = 0) && Vb.okV (L s) && ((s.size : Int) == width)
  else false
theorem sh2_no {f : Int → Int → Bool} {xs : List Int} (h : xs.length ≠ 2) : sh2 f xs = false := by
  unfold sh2; split
  · simp at h
  · rfl
theorem sh1_no {f : Int → Bool} {xs : List Int} (h : xs.length ≠ 1) : sh1 f xs = false := by
  unfold sh1; split
  · simp at h
  · rfl
theorem sh3_no {f : Int → Int → Int → Bool} {xs : List Int} (h : xs.length ≠ 3) : sh3 f xs = false := by
  unfold sh3; split
  · simp at h
  · rfl
theorem len2 {xs : List Int} (h : xs.length = 2) : ∃ x y, xs = [x, y] := by
  match xs, h with
  | [x, y], _ => exact ⟨x, y, rfl⟩
theorem len3 {xs : List Int} (h : xs.length = 3) : ∃ x y z, xs = [x, y, z] := by
  match xs, h with
  | [x, y, z], _ => exact ⟨x, y, z, rfl⟩
abbrev ShC (op width n : Int) (sg : Bool) (s : ByteArray) (v p : Value) (w : World) (r : Bool) : Prop :=
  Calls Try.prog 35 #[p, .agg #[.int .i64 op, .int .i64 width, .int .i64 n, .bool sg, .string s, v]] w fun e w' => e = .returned (.bool r) ∧ Below w.heap.size w w'
theorem by2 {op width n : Int} {sg : Bool} {s : ByteArray} {xs : List Int} {v p : Value} {w : World} {f : Int → Int → Bool} (hno : xs.length ≠ 2 → ShC op width n sg s v p w false) (hyes : ∀ x y, xs = [x, y] → ShC op width n sg s v p w (f x y)) : ShC op width n sg s v p w (sh2 f xs) := by
  by_cases h : xs.length = 2
  · obtain ⟨x, y, rfl⟩ := len2 h
    exact hyes x y rfl
  · rw [sh2_no h]; exact hno h
theorem by1 {op width n : Int} {sg : Bool} {s : ByteArray} {xs : List Int} {v p : Value} {w : World} {f : Int → Bool} (hno : xs.length ≠ 1 → ShC op width n sg s v p w false) (hyes : ∀ x, xs = [x] → ShC op width n sg s v p w (f x)) : ShC op width n sg s v p w (sh1 f xs) := by
  by_cases h : xs.length = 1
  · obtain ⟨x, rfl⟩ := List.length_eq_one_iff.1 h
    exact hyes x rfl
  · rw [sh1_no h]; exact hno h
theorem by3 {op width n : Int} {sg : Bool} {s : ByteArray} {xs : List Int} {v p : Value} {w : World} {f : Int → Int → Int → Bool} (hno : xs.length ≠ 3 → ShC op width n sg s v p w false) (hyes : ∀ x y z, xs = [x, y, z] → ShC op width n sg s v p w (f x y z)) : ShC op width n sg s v p w (sh3 f xs) := by
  by_cases h : xs.length = 3
  · obtain ⟨x, y, z, rfl⟩ := len3 h
    exact hyes x y z rfl
  · rw [sh3_no h]; exact hno h
theorem sShape (op width n : Int) (sg : Bool) (s : ByteArray) (xs : List Int) (v p : Value) (w : World) (ho : op < 30 ∨ 32 < op) (hw1 : 1 ≤ width) (hw2 : width ≤ 64) (hs : s.size ≤ maxLen) (hx : ∀ x ∈ xs, 0 ≤ x ∧ x ≤ 64) (hl : xs.length ≤ 1048576) (hr : RS 6 RKz w 0 xs v) :
    Calls Try.prog 35 #[p, .agg #[.int .i64 op, .int .i64 width, .int .i64 n, .bool sg, .string s, v]] w fun e w' => e = .returned (.bool (shapeB op width n sg s xs)) ∧ Below w.heap.size w w' := by
  show ShC op width n sg s v p w _
  unfold shapeB
  by_cases g0 : op < 1
  · rw [if_pos g0]; obtain ⟨a, c, rfl⟩ := hr.slice; exact sShLow op width n sg s a xs.length c p w g0
  rw [if_neg g0]
  by_cases g1 : op ≤ 8
  · rw [if_pos g1]; exact by2 (fun h => sShA_no op width n sg s xs v p w (by omega) g1 h hr) (fun x y e => by subst e; exact sShA op width n sg s x y v p w (by omega) g1 hr)
  rw [if_neg g1]
  by_cases g2 : op ≤ 13
  · rw [if_pos g2]; exact by2 (fun h => sShB_no op width n sg s xs v p w (by omega) g2 h hr) (fun x y e => by subst e; exact sShB op width n sg s x y v p w (by omega) g2 hr)
  rw [if_neg g2]
  by_cases g3 : op ≤ 16
  · rw [if_pos g3]; exact by2 (fun h => sShC_no op width n sg s xs v p w (by omega) g3 h hr) (fun x y e => by subst e; exact sShC op width n sg s x y v p w (by omega) g3 hr)
  rw [if_neg g3]
  by_cases g4 : op ≤ 18
  · rw [if_pos g4]
    obtain rfl | rfl : op = 17 ∨ op = 18 := by omega
    · exact by2 (fun h => sSh17_no width n sg s xs v p w h hr) (fun x y e => by subst e; exact sSh17 width n sg s x y v p w hr)
    · exact by2 (fun h => sSh18_no width n sg s xs v p w h hr) (fun x y e => by subst e; exact sSh18 width n sg s x y v p w hr)
  rw [if_neg g4]
  by_cases g5 : op ≤ 20
  · rw [if_pos g5]
    obtain rfl | rfl : op = 19 ∨ op = 20 := by omega
    · exact by1 (fun h => sSh19_no width n sg s xs v p w h hr) (fun x e => by subst e; exact sSh19 width n sg s x v p w hr)
    · exact by1 (fun h => sSh20_no width n sg s xs v p w h hr) (fun x e => by subst e; exact sSh20 width n sg s x v p w hr)
  rw [if_neg g5]
  by_cases g6 : op ≤ 24
  · rw [if_pos g6]
    obtain rfl | rfl | rfl | rfl : op = 21 ∨ op = 22 ∨ op = 23 ∨ op = 24 := by omega
    · exact by1 (fun h => sSh21_no width n sg s xs v p w h hr) (fun x e => by subst e; exact sSh21 width n sg s x v p w hr)
    · exact by1 (fun h => sSh22_no width n sg s xs v p w h hr) (fun x e => by subst e; exact sSh22 width n sg s x v p w hr)
    · exact by1 (fun h => sSh23_no width n sg s xs v p w h hr) (fun x e => by subst e; exact sSh23 width n sg s x v p w hr)
    · exact by1 (fun h => sSh24_no width n sg s xs v p w h hr) (fun x e => by subst e; exact sSh24 width n sg s x v p w hr)
  rw [if_neg g6]
  by_cases g7 : op = 25
  · rw [if_pos g7]; subst g7; exact by3 (fun h => sSh25_no width n sg s xs v p w h hr) (fun x y z e => by subst e; exact sSh25 width n sg s x y z v p w hr)
  rw [if_neg g7]
  by_cases g8 : op = 26
  · rw [if_pos g8]; subst g8; exact sSh26 width n sg s xs v p w hx hl hr
  rw [if_neg g8]
  by_cases g9 : op = 27
  · rw [if_pos g9]; subst g9; exact by1 (fun h => sSh27_no width n sg s xs v p w h hr) (fun x e => by subst e; exact sSh27 width n sg s x v p w hw1 hw2 hr)
  rw [if_neg g9]
  by_cases g10 : op = 28
  · rw [if_pos g10]; subst g10; exact by1 (fun h => sSh28_no width n sg s xs v p w h hr) (fun x e => by subst e; exact sSh28 width n sg s x v p w hr)
  rw [if_neg g10]
  by_cases g11 : op = 29
  · rw [if_pos g11]; subst g11
    obtain ⟨a, c, rfl⟩ := hr.slice
    exact sSh29 width n sg s a xs.length c p w hr.len hs
  rw [if_neg g11]
  obtain ⟨a, c, rfl⟩ := hr.slice
  exact sShHigh op width n sg s a xs.length c p w (by omega)
end Go.Proofs.Ytgkfhaahcedbpaa
