/- A block by itself: the mathematics; lut, regFits. -/
import Derived.Test.YtdmmbhemmbgcpadAC1
import Derived.Test.YtdmmbhemmbgcpadFB
namespace Go.Proofs.Ytdmmbhemmbgcpad
open Go Go.RowKit Gs
set_option linter.unusedVariables false
set_option linter.unusedSimpArgs false
set_option maxRecDepth 100000
def blk0 : Block := ⟨⟨#[]⟩, [], 0, false, 0, 0⟩
/-- What a block says of its register. -/
def regB (nc : Nat) (b : Block) : Bool := if b.reg then plB b.init 2 && plB b.clock nc else (b.name.toList.isEmpty && (b.init == 0)) && (b.clock == 0)
/-- A source that is no table with a number from k on. -/
def ahB (first : Nat) (bs : List Block) (k : Nat) (s : Int) : Bool := !decide ((k : Int) ≤ s - (first : Int)) || (bs.getD (s - (first : Int)).toNat blk0).reg
def aheadB (first : Nat) (bs : List Block) (k : Nat) (xs : List Int) : Bool := xs.all (ahB first bs k)
def blkB (first : Nat) (bs : List Block) (nc k : Nat) (b : Block) : Bool := lutB (first + bs.length) ⟨b.inp, b.table⟩ && regB nc b && (b.reg || aheadB first bs k b.inp)
def blkAt (first : Nat) (bs : List Block) (nc k : Nat) : Bool := blkB first bs nc k (bs.getD k blk0)
def blocksB (first : Nat) (bs : List Block) (nc : Nat) : Bool := upB (blkAt first bs nc) bs.length
theorem blkAt_at {first : Nat} {bs : List Block} {nc k : Nat} {b : Block} (h : bs[k]? = some b) : blkAt first bs nc k = blkB first bs nc k b := by
  unfold blkAt
  rw [show bs.getD k blk0 = b by rw [List.getD_eq_getElem?_getD, h]; rfl]
theorem insB_mem {n : Nat} {xs : List Int} (h : insB n xs = true) : ∀ x ∈ xs, 0 ≤ x ∧ x < (n : Int) := by
  intro x hx
  obtain ⟨j, hj⟩ := List.getElem?_of_mem hx
  have h1 := upB_at h (List.getElem?_eq_some_iff.1 hj).1
  rw [inAt_at hj] at h1
  unfold plB at h1
  simp only [Bool.and_eq_true, decide_eq_true_eq] at h1
  exact h1.1
theorem lutB_parts {n : Nat} {x : Lut} (h : lutB n x = true) : x.inp.length ≤ 4 ∧ ∀ y ∈ x.inp, 0 ≤ y ∧ y < (n : Int) := by
  unfold lutB at h
  simp only [Bool.and_eq_true, decide_eq_true_eq] at h
  exact ⟨h.1, insB_mem h.2.2.2⟩
theorem iLut (x0 : ByteArray) (v1 : Value) (x2 : Int) (x3 : Bool) (x4 x5 : Int) (w : World) (a1 : Option Addr) (l1 c1 : Nat) (hv : v1 = .slice a1 l1 c1) :
    Calls Try.prog 47 #[.agg #[.string x0, v1, .int .i64 x2, .bool x3, .int .i64 x4, .int .i64 x5]] w fun e w' => e = .returned (.agg #[v1, .int .i64 x2]) ∧ Below w.heap.size w w' := by
  subst hv
  go_enter Try.func47, Try.ntmps47
  go_wp2
  exact bodyPost_ret (v := .agg #[.slice a1 l1 c1, .int .i64 x2]) (by simp [results, Try.results47, go_sem]) rfl ⟨rfl, bal (bal (brf w) _) _⟩
set_option maxHeartbeats 3200000 in
theorem iRegFits (s0 s1 s2 s3 s4 : Option Addr) (l0 l1 l2 l3 l4 c0 c1 c2 c3 c4 : Nat) (b : Block) (a1 : Option Addr) (m1 d1 : Nat) (w : World) (hs : b.name.size ≤ maxLen) (hl1 : l1 ≤ 1048576) :
    Calls Try.prog 50 #[.agg #[.slice s0 l0 c0, .slice s1 l1 c1, .slice s2 l2 c2, .slice s3 l3 c3, .slice s4 l4 c4], .agg #[.string b.name, .slice a1 m1 d1, .int .i64 b.table, .bool b.reg, .int .i64 b.init, .int .i64 b.clock]] w fun e w' => e = .returned (.bool (regB l1 b)) ∧ Below w.heap.size w w' := by
  have HR : Hid (regB l1 b = if b.reg then plB b.init 2 && plB b.clock l1 else (b.name.toList.isEmpty && (b.init == 0)) && (b.clock == 0)) := hide rfl
  generalize regB l1 b = RR at *
  generalize b.name = nm at *
  generalize b.table = tb at *
  generalize b.init = it at *
  generalize b.clock = ck at *
  cases hreg : b.reg
  · rw [hreg] at HR
    have HR2 : Hid (RR = ((nm.toList.isEmpty && (it == 0)) && (ck == 0))) := hide (by rw [unhide HR]; rfl)
    clear HR
    cases he : nm.toList.isEmpty
    · go_enter Try.func50, Try.ntmps50
      go_wp2
      exact bodyPost_ret (v := .bool false) (by simp [results, Try.results50, go_sem]) rfl ⟨by rw [unhide HR2, he]; rfl, bal (bal (brf w) _) _⟩
    · by_cases hi : it = 0
      · subst hi
        go_enter Try.func50, Try.ntmps50
        go_wp2
        exact bodyPost_ret (v := .bool (ck == 0)) (by simp [results, Try.results50, go_sem]) rfl ⟨by rw [unhide HR2, he]; rfl, bal (bal (brf w) _) _⟩
      · go_enter Try.func50, Try.ntmps50
        go_wp2
        exact bodyPost_ret (v := .bool false) (by simp [results, Try.results50, go_sem]) rfl ⟨by rw [unhide HR2, he, beq_eq_false_iff_ne.2 hi]; rfl, bal (bal (brf w) _) _⟩
  · rw [hreg] at HR
    have HR2 : Hid (RR = (plB it 2 && plB ck l1)) := hide (by rw [unhide HR]; rfl)
    clear HR
    have H1 := hide (fun V => iPlace it 2 V)
    have H2 := hide (fun V => iPlace ck l1 V)
    change Hid (RR = ((decide (0 ≤ it) && decide (it < ((2 : Nat) : Int))) && (decide (0 ≤ ck) && decide (ck < (l1 : Int))))) at HR2
    change Hid (∀ V, Calls Try.prog 24 #[.int .i64 it, .int .i64 ((2 : Nat) : Int)] V fun e w' => e = .returned (.bool (decide (0 ≤ it) && decide (it < ((2 : Nat) : Int)))) ∧ w' = V) at H1
    generalize (decide (0 ≤ it) && decide (it < ((2 : Nat) : Int))) = p1 at *
    generalize (decide (0 ≤ ck) && decide (ck < (l1 : Int))) = p2 at *
    cases p1
    · go_enter Try.func50, Try.ntmps50
      go_wp2_with fail
      refine (unhide H1 _).mono ?_
      rintro e W1 ⟨rfl, h⟩
      have h' := h.symm
      subst h'
      go_wp2_with fail
      exact bodyPost_ret (v := .bool false) (by simp [results, Try.results50, go_sem]) rfl ⟨by rw [unhide HR2]; rfl, bal (bal (brf w) _) _⟩
    · go_enter Try.func50, Try.ntmps50
      go_wp2_with fail
      refine (unhide H1 _).mono ?_
      rintro e W1 ⟨rfl, h⟩
      have h' := h.symm
      subst h'
      go_wp2_with fail
      refine (unhide H2 _).mono ?_
      rintro e W1 ⟨rfl, h⟩
      have h' := h.symm
      subst h'
      go_wp2_with fail
      exact bodyPost_ret (v := .bool p2) (by simp [results, Try.results50, go_sem]) rfl ⟨by rw [unhide HR2]; rfl, bal (bal (brf w) _) _⟩
end Go.Proofs.Ytdmmbhemmbgcpad
