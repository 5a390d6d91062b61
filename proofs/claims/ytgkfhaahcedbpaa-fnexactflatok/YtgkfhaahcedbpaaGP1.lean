/- The specification's shape, of all operations. -/
import Derived.Test.YtgkfhaahcedbpaaGSHs
import Derived.Test.YtgkfhaahcedbpaaSHs30
import Derived.Test.YtgkfhaahcedbpaaSHs31
import Derived.Test.YtgkfhaahcedbpaaSHs32
import Derived.Test.YtgkfhaahcedbpaaGM8
namespace Go.Proofs.Ytgkfhaahcedbpaa
open Go Go.RowKit Gs
set_option linter.unusedVariables false
set_option maxRecDepth 100000
/-- What lies in memory of signals. -/
theorem sig_cells {w : World} {sg : List Signal} {s : Option Addr} {n c : Nat} (h : RS 6 RSignal w 0 sg (.slice s n c)) : ∀ (k : Nat) g, sg[k]? = some g → ∃ b o, s = some ⟨b, o, none⟩ ∧ w.cell? ⟨b, o + k * 6, none⟩ = some (.string g.name) ∧ w.cell? ⟨b, o + k * 6 + 1, none⟩ = some (.int .i64 g.kind) ∧ w.cell? ⟨b, o + k * 6 + 2, none⟩ = some (.int .i64 g.width) ∧ w.cell? ⟨b, o + k * 6 + 3, none⟩ = some (.int .i64 g.depth) ∧ w.cell? ⟨b, o + k * 6 + 4, none⟩ = some (.bool g.signed) ∧ w.cell? ⟨b, o + k * 6 + 5, none⟩ = some (.string g.init) ∧ g.name.size ≤ maxLen ∧ g.init.size ≤ maxLen := by
  intro k g hk
  rcases h.open with ⟨rfl, _⟩ | ⟨b, o, c', hv, _, _, _, he⟩
  · simp at hk
  · injection hv with e1 e2 e3
    obtain ⟨u, hu, hat, rfl, h1, h2⟩ := he k g hk
    exact ⟨b, o, e1, by simpa using hat.get (j := 0) rfl, hat.get (j := 1) rfl, hat.get (j := 2) rfl, hat.get (j := 3) rfl, hat.get (j := 4) rfl, hat.get (j := 5) rfl, h1, h2⟩
theorem sShapeG (sg : List Signal) (op width n : Int) (sd : Bool) (s : ByteArray) (kw : List Int) (v : Value) (pb : Nat) (sv : Value) (W : World) (hw1 : 1 ≤ width) (hw2 : width ≤ 64) (hs : s.size ≤ maxLen) (hx : ∀ x ∈ kw, 0 ≤ x ∧ x ≤ 64) (hl : kw.length ≤ 1048576) (hr : RS 6 RKz W 0 kw v) (h0 : W.cell? ⟨pb, 0, none⟩ = some sv) (hsg : RS 6 RSignal W 0 sg sv) (hsl : sg.length ≤ 1048576) :
    Calls Try.prog 35 #[.pointer (some ⟨pb, 0, none⟩), .agg #[.int .i64 op, .int .i64 width, .int .i64 n, .bool sd, .string s, v]] W fun e w' => e = .returned (.bool (shG sg op width n sd s kw)) ∧ Below W.heap.size W w' := by
  unfold shG
  by_cases h3 : 30 ≤ op ∧ op ≤ 32
  · rw [if_pos h3]
    obtain ⟨a, c, rfl⟩ := hr.slice
    obtain ⟨sa, sc, rfl⟩ := hsg.slice
    by_cases hn : n < 0
    · rw [if_pos hn]
      exact sShOut op width n sd s a _ c pb sa _ sc W h3.1 h3.2 (.inl hn) h0
    · rw [if_neg hn]
      obtain ⟨k, rfl⟩ : ∃ k : Nat, n = (k : Int) := ⟨n.toNat, by omega⟩
      rw [Int.toNat_natCast]
      by_cases hk : k < sg.length
      · obtain ⟨g, hg⟩ : ∃ g, sg[k]? = some g := ⟨_, List.getElem?_eq_getElem hk⟩
        rw [hg]
        obtain ⟨b, o, rfl, c0, c1, c2, c3, c4, c5, _, _⟩ := sig_cells hsg k g hg
        have hop : op = 30 ∨ op = 31 ∨ op = 32 := by omega
        rcases hop with rfl | rfl | rfl
        · exact sShIn30 width k sd s a _ c pb b o _ sc g W hk hsl hr.len h0 c0 c1 c2 c3 c4 c5
        · exact sShIn31 width k sd s a _ c pb b o _ sc g W hk hsl hr.len h0 c0 c1 c2 c3 c4 c5
        · exact sShIn32 width k sd s a _ c pb b o _ sc g W hk hsl hr.len h0 c0 c1 c2 c3 c4 c5
      · rw [List.getElem?_eq_none (by omega)]
        exact sShOut op width k sd s a _ c pb sa _ sc W h3.1 h3.2 (.inr (by omega)) h0
  · rw [if_neg h3]
    exact sShape op width n sd s kw v _ W (by omega) hw1 hw2 hs hx hl hr
end Go.Proofs.Ytgkfhaahcedbpaa
namespace Go.Proofs.Ytgkfhaahcedbpaa
open Go Go.RowKit Gs
set_option linter.unusedVariables false
set_option linter.unusedSimpArgs false
set_option maxRecDepth 100000
/-- The look: its signals, how many may still come. -/
def Pl (lb : Nat) (sv : Value) (T : TypeId) (W : World) (k : Int) : Prop := W.heap[lb]? = some (.cells #[sv, .int .i64 k] T)
theorem Pl.lt {lb : Nat} {sv : Value} {T : TypeId} {W : World} {k : Int} (h : Pl lb sv T W k) : lb < W.heap.size := (Array.getElem?_eq_some_iff.1 h).1
theorem Pl.c0 {lb : Nat} {sv : Value} {T : TypeId} {W : World} {k : Int} (h : Pl lb sv T W k) : W.cell? ⟨lb, 0, none⟩ = some sv := by simp [World.cell?, show W.heap[lb]? = _ from h]
theorem Pl.c1 {lb : Nat} {sv : Value} {T : TypeId} {W : World} {k : Int} (h : Pl lb sv T W k) : W.cell? ⟨lb, 1, none⟩ = some (.int .i64 k) := by simp [World.cell?, show W.heap[lb]? = _ from h]
theorem Pl.free {lb : Nat} {sv : Value} {T : TypeId} {W : World} {k : Int} (h : Pl lb sv T W k) : W.frozen? ⟨lb, 1, none⟩ = false := by simp [World.frozen?, show W.heap[lb]? = _ from h]
theorem Pl.later {lb : Nat} {sv : Value} {T : TypeId} {W V : World} {k : Int} (h : Pl lb sv T W k) (hb : Below W.heap.size W V) : Pl lb sv T V k := (hb.block lb h.lt).trans h
theorem Pl.set {lb : Nat} {sv : Value} {T : TypeId} {W : World} {k : Int} (h : Pl lb sv T W k) (k' : Int) : Pl lb sv T (W.setCell ⟨lb, 1, none⟩ (.int .i64 k')) k' := by
  unfold Pl World.setCell
  simp only
  rw [Array.getElem?_modify]
  simp [show W.heap[lb]? = _ from h]
theorem iNext (lb : Nat) (sv : Value) (T : TypeId) (k : Nat) (deep : Int) (W : World) (hk : k ≤ 16384) (hp : Pl lb sv T W k) :
    Calls Try.prog 38 #[.pointer (some ⟨lb, 0, none⟩), .int .i64 deep] W fun e W' => e = .returned (.bool (decide (1 ≤ k) && decide (deep ≤ 400))) ∧ Pl lb sv T W' ((k : Int) - 1) ∧ Fx lb W W' := by
  have c1 := hp.c1
  have fr := hp.free
  have hpl := hp.lt
  have HP := hide (hp.set ((k : Int) - 1))
  have HX := hide (Fx.set lb 1 W (.int .i64 ((k : Int) - 1)))
  obtain ⟨m, hm⟩ : ∃ m, (k : Int) - 1 = m := ⟨_, rfl⟩
  rw [hm] at HP HX ⊢
  clear hp
  by_cases h0 : 0 ≤ m
  · have hd : decide (1 ≤ k) = true := decide_eq_true (by omega)
    rw [hd, Bool.true_and]
    go_enter Try.func38, Try.ntmps38
    go_wp2
    exact bodyPost_ret (v := .bool (decide (deep ≤ 400))) (by simp [results, Try.results38, go_sem]) rfl ⟨rfl, unhide HP, unhide HX⟩
  · have hd : decide (1 ≤ k) = false := decide_eq_false (by omega)
    rw [hd, Bool.false_and]
    have h1 : m < 0 := by omega
    go_enter Try.func38, Try.ntmps38
    go_wp2
    exact bodyPost_ret (v := .bool false) (by simp [results, Try.results38, go_sem]) rfl ⟨rfl, unhide HP, unhide HX⟩
/-- A set of kinds has a kind. -/
def inSet (s : Nat) (k : Int) : Bool := decide (1 ≤ k) && decide (k ≤ 47) && s.testBit k.toNat
theorem bit_of (s m : Nat) (hs : s < 2 ^ 48) : (bits .and .u64 ((s : Int) / 2 ^ m) 1 == 1) = s.testBit m := by
  have hd := Nat.div_le_self s (2 ^ m)
  have h1 : ((s : Int) / 2 ^ m) = U (BitVec.ofNat 64 (s / 2 ^ m)) := by
    rw [U_ofNat, Nat.mod_eq_of_lt (by omega)]
    simp
  have h2 : (1 : Int) = U 1#64 := rfl
  rw [h1, U_and1, h2, U_beq, Nat.testBit_eq_decide_div_mod_eq, Bool.eq_iff_iff, beq_iff_eq, ← BitVec.toNat_inj, decide_eq_true_eq]
  have h3 : (BitVec.ofNat 64 (s / 2 ^ m) &&& 1#64).toNat = s / 2 ^ m % 2 := by
    rw [BitVec.toNat_and, BitVec.toNat_ofNat, Nat.mod_eq_of_lt (by omega)]
    exact Nat.and_one_is_mod _
  rw [h3]
  rfl
theorem iKHas (s : Nat) (k : Int) (w : World) (hs : s < 2 ^ 48) : Calls Try.prog 39 #[.int .u64 s, .int .i64 k] w fun e w' => e = .returned (.bool (inSet s k)) ∧ w' = w := by
  by_cases h1 : 1 ≤ k
  · by_cases h2 : k ≤ 47
    · obtain ⟨m, rfl⟩ : ∃ m : Nat, k = m := ⟨k.toNat, by omega⟩
      go_enter Try.func39, Try.ntmps39
      go_wp2
      go_ret
      refine ⟨ret_bool ?_, rfl⟩
      unfold inSet
      rw [decide_eq_true h1, decide_eq_true h2, Bool.true_and, Bool.true_and, Int.toNat_natCast]
      exact bit_of s m hs
    · have e : inSet s k = false := by unfold inSet; rw [decide_eq_false h2, Bool.and_false, Bool.false_and]
      rw [e]
      go_enter Try.func39, Try.ntmps39
      go_wp2
      go_ret
      exact ⟨rfl, rfl⟩
  · have e : inSet s k = false := by unfold inSet; rw [decide_eq_false h1, Bool.false_and, Bool.false_and]
    rw [e]
    go_enter Try.func39, Try.ntmps39
    go_wp2
    go_ret
    exact ⟨rfl, rfl⟩
def stOf (p : Int) : Nat := if p = 1 then 4 else if p = 2 then 22 else if p = 3 then 30 else if p = 4 then 126 else if p = 5 then 128 else 0
theorem iStOf (p : Int) (w : World) : Calls Try.prog 30 #[.int .i64 p] w fun e w' => e = .returned (.int .u64 (stOf p : Nat)) ∧ w' = w := by
  by_cases h1 : p = 1
  · subst h1; go_enter Try.func30, Try.ntmps30; go_wp2; go_ret; exact ⟨rfl, rfl⟩
  by_cases h2 : p = 2
  · subst h2; go_enter Try.func30, Try.ntmps30; go_wp2; go_ret; exact ⟨rfl, rfl⟩
  by_cases h3 : p = 3
  · subst h3; go_enter Try.func30, Try.ntmps30; go_wp2; go_ret; exact ⟨rfl, rfl⟩
  by_cases h4 : p = 4
  · subst h4; go_enter Try.func30, Try.ntmps30; go_wp2; go_ret; exact ⟨rfl, rfl⟩
  by_cases h5 : p = 5
  · subst h5; go_enter Try.func30, Try.ntmps30; go_wp2; go_ret; exact ⟨rfl, rfl⟩
  have b1 : (p == 1) = false := beq_eq_false_iff_ne.2 h1
  have b2 : (p == 2) = false := beq_eq_false_iff_ne.2 h2
  have b3 : (p == 3) = false := beq_eq_false_iff_ne.2 h3
  have b4 : (p == 4) = false := beq_eq_false_iff_ne.2 h4
  have b5 : (p == 5) = false := beq_eq_false_iff_ne.2 h5
  have e : stOf p = 0 := by unfold stOf; rw [if_neg h1, if_neg h2, if_neg h3, if_neg h4, if_neg h5]
  rw [e]
  go_enter Try.func30, Try.ntmps30
  go_wp2
  go_ret
  exact ⟨rfl, rfl⟩
def setOf (p : Int) : Nat := if p = 1 then 12 else 48
theorem iSetBy (p : Int) (w : World) : Calls Try.prog 31 #[.int .i64 p] w fun e w' => e = .returned (.int .u64 (setOf p : Nat)) ∧ w' = w := by
  by_cases h1 : p = 1
  · subst h1; go_enter Try.func31, Try.ntmps31; go_wp2; go_ret; exact ⟨rfl, rfl⟩
  have b1 : (p == 1) = false := beq_eq_false_iff_ne.2 h1
  have e : setOf p = 48 := by unfold setOf; rw [if_neg h1]
  rw [e]
  go_enter Try.func31, Try.ntmps31
  go_wp2
  go_ret
  exact ⟨rfl, rfl⟩
end Go.Proofs.Ytgkfhaahcedbpaa
