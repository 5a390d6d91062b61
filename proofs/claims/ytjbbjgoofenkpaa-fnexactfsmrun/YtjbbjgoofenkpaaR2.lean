/- What a run of a machine tells; the program's FsmRun. -/
import Derived.Test.YtjbbjgoofenkpaaG6
import Derived.Test.YtjbbjgoofenkpaaR1
namespace Go.Proofs.Ytjbbjgoofenkpaa
open Go.RowKit Gs
set_option linter.unusedVariables false
set_option linter.unusedSimpArgs false
set_option maxRecDepth 100000
def nxt (f : Fsm) (s i : Nat) : Nat := ((f.next.getD s []).getD i 0).toNat
def outAt (f : Fsm) (t i : Nat) : ByteArray := (f.outs.getD t []).getD i ByteArray.empty
/-- What is told from a state on. -/
def runP (f : Fsm) (N : Nat) : Nat → List Int → Option (List ByteArray)
  | _, [] => some []
  | s, z :: zs => if 0 ≤ z ∧ z < (N : Int) then (runP f N (nxt f s z.toNat) zs).map (outAt f (nxt f s z.toNat) z.toNat :: ·) else none
def codeP : Option (List ByteArray) → Int
  | some _ => 0
  | none => 11
/-- What FsmRun answers. -/
def runR (f : Fsm) (zs : List Int) : List ByteArray × Int := if 4096 < zs.length then ([], 2) else if fsmS f = true then (match runP f (cntI f.ins) 0 zs with | some xs => (xs, 0) | none => ([], 11)) else ([], 1)
structure GoodF (f : Fsm) (N n : Nat) : Prop where
  i0 : 0 ≤ f.ins
  i5 : f.ins ≤ 5
  n1 : 1 ≤ n
  n64 : n ≤ 64
  l2 : f.states.length = n
  l3 : f.next.length = n
  l4 : f.outs.length = n
  nr : ∀ s, s < n → (f.next.getD s []).length = N
  orow : ∀ s, s < n → (f.outs.getD s []).length = N
  to : ∀ s i, s < n → i < N → 0 ≤ (f.next.getD s []).getD i 0 ∧ (f.next.getD s []).getD i 0 < (n : Int)
theorem goodF {f : Fsm} (h : fsmS f = true) : GoodF f (cntI f.ins) f.states.length := by
  rw [← fsm_same] at h
  unfold fsmI at h
  rw [Bool.and_eq_true, Bool.and_eq_true] at h
  obtain ⟨⟨hc, _⟩, hr⟩ := h
  obtain ⟨k0, k1, _, _, k4, k5, k6, k7⟩ := cntB_parts hc
  rw [List.all_eq_true] at hr
  have hrow : ∀ s, s < f.states.length → (f.next.getD s []).length = cntI f.ins ∧ (f.outs.getD s []).length = cntI f.ins ∧ ∀ i, i < cntI f.ins → inB f.outBits f.states.length (f.next.getD s []) (f.outs.getD s []) i = true := fun s hs => by
    have := hr s (List.mem_range.2 hs)
    unfold rowAt rowB at this
    simp only [Bool.and_eq_true, decide_eq_true_eq, List.all_eq_true, List.mem_range] at this
    exact ⟨this.1.1, this.1.2, this.2⟩
  refine ⟨k0, k1, k4, k5, rfl, k6, k7, fun s hs => (hrow s hs).1, fun s hs => (hrow s hs).2.1, fun s i hs hi => ?_⟩
  have := (hrow s hs).2.2 i hi
  unfold inB at this
  simp only [Bool.and_eq_true, decide_eq_true_eq] at this
  exact this.2
theorem GoodF.nxt_lt {f : Fsm} {N n : Nat} (h : GoodF f N n) {s i : Nat} (hs : s < n) (hi : i < N) : nxt f s i < n ∧ (f.next.getD s []).getD i 0 = ((nxt f s i : Nat) : Int) := by
  have := h.to s i hs hi
  unfold nxt
  omega
theorem runP_len {f : Fsm} {N : Nat} : ∀ (zs : List Int) (s : Nat) (xs : List ByteArray), runP f N s zs = some xs → xs.length = zs.length
  | [], s, xs, h => by simp [runP] at h; subst h; rfl
  | z :: zs, s, xs, h => by
    unfold runP at h
    split at h
    · rw [Option.map_eq_some_iff] at h
      obtain ⟨ys, hy, rfl⟩ := h
      rw [List.length_cons, runP_len zs _ ys hy, List.length_cons]
    · cases h
theorem OT.frame {t : TypeId} {W W1 W2 : World} {vs : Array Value} {v : Value} {xs : List ByteArray} (hX : Bt t W vs W1) (ho : OT (W.heap.size + 1) W1 v xs) (hg : W1.grownBy W2 v.ownBlock) : Bt t W vs W2 := by
  have e : (W.alloc (.cells vs t)).heap.size = W.heap.size + 1 := by go_simp
  unfold Bt at *
  refine Below.grown hX hg (Below.size hX) (fun j hj => ?_)
  rw [e]; exact ho.row j hj
/-- The elements of a row of strings. -/
theorem strAt {w : World} {ys : List ByteArray} {x : Option Addr} {n c : Nat} (h : RS 1 RStr w 0 ys (.slice x n c)) {i : Nat} (hi : i < ys.length) : ∃ b o, x = some ⟨b, o, none⟩ ∧ w.cell? ⟨b, o + i, none⟩ = some (.string (ys.getD i ByteArray.empty)) ∧ (ys.getD i ByteArray.empty).size ≤ maxLen := by
  have hx : ys[i]? = some ys[i] := List.getElem?_eq_getElem hi
  rcases h.open with ⟨hnil, _⟩ | ⟨b, o, cc, ee, _, _, _, hcs⟩
  · have e : ys.length = 0 := by rw [hnil]; rfl
    omega
  obtain rfl : x = some ⟨b, o, none⟩ := by injection ee
  obtain ⟨u, _, at1, hu, hz⟩ := hcs i _ hx
  subst hu
  have m := at1.get (j := 0) rfl
  simp only [Nat.add_zero, Nat.mul_one] at m
  refine ⟨b, o, rfl, ?_, ?_⟩
  · rw [List.getD_eq_getElem?_getD, hx]; exact m
  · rw [List.getD_eq_getElem?_getD, hx]; exact hz
theorem intAt {w : World} {ys : List Int} {x : Option Addr} {n c : Nat} (h : RS 1 RInt w 0 ys (.slice x n c)) {i : Nat} (hi : i < ys.length) : ∃ b o, x = some ⟨b, o, none⟩ ∧ w.cell? ⟨b, o + i, none⟩ = some (.int .i64 (ys.getD i 0)) := by
  have hx : ys[i]? = some ys[i] := List.getElem?_eq_getElem hi
  rcases h.open with ⟨hnil, _⟩ | ⟨b, o, cc, ee, _, _, _, hcs⟩
  · have e : ys.length = 0 := by rw [hnil]; rfl
    omega
  obtain rfl : x = some ⟨b, o, none⟩ := by injection ee
  obtain ⟨u, _, at1, hu⟩ := hcs i _ hx
  obtain rfl : u = [.int .i64 ys[i]] := hu
  have m := at1.get (j := 0) rfl
  simp only [Nat.add_zero, Nat.mul_one] at m
  refine ⟨b, o, rfl, ?_⟩
  rw [List.getD_eq_getElem?_getD, hx]; exact m
end Go.Proofs.Ytjbbjgoofenkpaa
