/- The laws' functions over rows that may be empty, and rows of one's own as rows of tokens. -/
import Derived.Test.YtdgiidlaafbgcaaDoorTI6
import Derived.Laws.OwnMore
namespace Go.Proofs.YtdgiidlaafbgcaaDoor
open Go.RowKit
set_option linter.unusedVariables false
/-- A slice of n tokens. -/
def TV (W : World) (v : Value) (n : Nat) (K A : Nat → Int) (T : Nat → ByteArray) : Prop :=
  (n = 0 ∧ ∃ a c, v = .slice a 0 c) ∨ ∃ g c, v = .slice (some ⟨g, 0, none⟩) n c ∧ TR W g n K A T
/-- A slice of n tokens that may be written, of a block from B on. -/
def TW (W : World) (B : Nat) (v : Value) (n : Nat) : Prop :=
  (n = 0 ∧ ∃ a c, v = .slice a 0 c) ∨ ∃ g c, v = .slice (some ⟨g, 0, none⟩) n c ∧ B ≤ g ∧ TP W g n
theorem TV_later {W W' : World} {v : Value} {n : Nat} {K A : Nat → Int} {T : Nat → ByteArray} (h : TV W v n K A T) (hb : Below W.heap.size W W') : TV W' v n K A T := by
  rcases h with h | ⟨g, c, rfl, h⟩
  · exact .inl h
  · exact .inr ⟨g, c, rfl, TR_later h hb⟩
theorem TW_later {W W' : World} {B : Nat} {v : Value} {n : Nat} (h : TW W B v n) (hb : Below W.heap.size W W') : TW W' B v n := by
  rcases h with h | ⟨g, c, rfl, hB, h⟩
  · exact .inl h
  · exact .inr ⟨g, c, rfl, hB, TP_later h hb⟩
theorem lEq0 (a1 a2 : Option Addr) (c1 c2 : Nat) (w : World) :
    Calls Tryd.prog 6 #[.slice a1 0 c1, .slice a2 0 c2] w fun e w' => e = .returned (.bool true) ∧ Below w.heap.size w w' := by
  go_enter Tryd.func6, Tryd.ntmps6
  go_wp2
  go_loopw [5] (fun i wr => i = .int .i64 0 ∧ Below w.heap.size w wr) (fun i wr => 0)
  case atStart => exact ⟨rfl, brf _⟩
  case round =>
    obtain ⟨rfl, hb⟩ := hrel
    have HB := hide hb
    clear hb
    go_wp2
    exact bodyPost_ret (v := .bool true) (by simp [results, Tryd.results6, go_sem]) rfl ⟨rfl, unhide HB⟩
theorem lHeld0 (a : Option Addr) (c : Nat) (w : World) :
    Calls Tryd.prog 8 #[.slice a 0 c, .int .i64 1] w fun e w' => e = .returned (.int .i64 1) ∧ Below w.heap.size w w' := by
  go_enter Tryd.func8, Tryd.ntmps8
  go_wp2
  go_loopw [1, 5] (fun k i wr => i = .int .i64 0 ∧ k = .int .i64 1 ∧ Below w.heap.size w wr) (fun k i wr => 0)
  case atStart => exact ⟨rfl, rfl, brf _⟩
  case round =>
    obtain ⟨rfl, rfl, hb⟩ := hrel
    have HB := hide hb
    clear hb
    go_wp2
    exact bodyPost_ret (v := .int .i64 1) (by simp [results, Tryd.results8, go_sem]) rfl ⟨rfl, unhide HB⟩
theorem lMark0 (a : Option Addr) (c : Nat) (w : World) :
    Calls Tryd.prog 7 #[.slice a 0 c, .int .i64 1] w fun e w' => e = .returned (.int .i64 1) ∧ Below w.heap.size w w' := by
  go_enter Tryd.func7, Tryd.ntmps7
  go_wp2
  go_loopw [1, 5] (fun k i wr => i = .int .i64 0 ∧ k = .int .i64 1 ∧ Below w.heap.size w wr) (fun k i wr => 0)
  case atStart => exact ⟨rfl, rfl, brf _⟩
  case round =>
    obtain ⟨rfl, rfl, hb⟩ := hrel
    have HB := hide hb
    clear hb
    go_wp2
    exact bodyPost_ret (v := .int .i64 1) (by simp [results, Tryd.results7, go_sem]) rfl ⟨rfl, unhide HB⟩
theorem lEqV (v1 v2 : Value) (n : Nat) (K A : Nat → Int) (T : Nat → ByteArray) (w : World) (hn : n ≤ 20000) (h1 : TV w v1 n K A T) (h2 : TV w v2 n K A T) :
    Calls Tryd.prog 6 #[v1, v2] w fun e w' => e = .returned (.bool true) ∧ Below w.heap.size w w' := by
  rcases h1 with ⟨h0, a1, c1, rfl⟩ | ⟨g1, c1, rfl, t1⟩
  · subst h0
    rcases h2 with ⟨_, a2, c2, rfl⟩ | ⟨g2, c2, rfl, t2⟩
    · exact lEq0 _ _ _ _ w
    · exact lEq0 _ _ _ _ w
  · rcases h2 with ⟨h0, a2, c2, rfl⟩ | ⟨g2, c2, rfl, t2⟩
    · subst h0; exact lEq0 _ _ _ _ w
    · exact lEq g1 g2 n c1 c2 K A T w hn t1 t2
/-- The marks that a row gets. -/
def mK (i : Nat) : Int := ((1 + 3 * i : Nat) : Int)
def mA (i : Nat) : Int := ((3 + 3 * i : Nat) : Int)
def mT (i : Nat) : ByteArray := S (mtL (2 + 3 * i))
theorem lHeldV (v : Value) (n : Nat) (w : World) (hn : n ≤ 20000) (h : TV w v n mK mA mT) :
    Calls Tryd.prog 8 #[v, .int .i64 1] w fun e w' => e = .returned (.int .i64 ((1 + 3 * n : Nat) : Int)) ∧ Below w.heap.size w w' := by
  rcases h with ⟨h0, a1, c1, rfl⟩ | ⟨g1, c1, rfl, t1⟩
  · subst h0; exact lHeld0 _ _ w
  · exact lHeld g1 n c1 w hn t1
theorem lMarkV (v : Value) (n B : Nat) (w : World) (hn : n ≤ 20000) (hBw : B ≤ w.heap.size) (h : TW w B v n) :
    Calls Tryd.prog 7 #[v, .int .i64 1] w fun e w' => e = .returned (.int .i64 ((1 + 3 * n : Nat) : Int)) ∧ Below B w w' ∧ TV w' v n mK mA mT := by
  rcases h with ⟨h0, a1, c1, rfl⟩ | ⟨g1, c1, rfl, hB, t1⟩
  · subst h0
    refine (lMark0 _ _ w).mono ?_
    rintro e w' ⟨rfl, hb⟩
    exact ⟨rfl, hb.mono hBw, .inl ⟨rfl, _, _, rfl⟩⟩
  · refine (lMark g1 n c1 B w hn hB hBw t1).mono ?_
    rintro e w' ⟨rfl, hb, ht⟩
    exact ⟨rfl, hb, .inr ⟨_, _, rfl, ht⟩⟩
def tD (ts : List Nb.Tk) (i : Nat) : Nb.Tk := ts.getD i ⟨0, [], 0⟩
def oK (ts : List Nb.Tk) (i : Nat) : Int := ((tD ts i).kind : Nat)
def oA (ts : List Nb.Tk) (i : Nat) : Int := ((tD ts i).at_ : Nat)
def oT (ts : List Nb.Tk) (i : Nat) : ByteArray := S (tD ts i).text
theorem tkC_cons (t : Nb.Tk) (ts : List Nb.Tk) : tkC (t :: ts) = .int .i64 (t.kind : Nat) :: .string (S t.text) :: .int .i64 (t.at_ : Nat) :: tkC ts := by simp [tkC]
theorem tkC_at (ts : List Nb.Tk) : ∀ i, i < ts.length → (tkC ts)[i * 3]? = some (.int .i64 (oK ts i)) ∧ (tkC ts)[i * 3 + 1]? = some (.string (oT ts i)) ∧ (tkC ts)[i * 3 + 2]? = some (.int .i64 (oA ts i)) := by
  induction ts with
  | nil => intro i h; exact absurd h (Nat.not_lt_zero _)
  | cons t ts ih =>
    intro i h
    rw [tkC_cons]
    cases i with
    | zero => exact ⟨rfl, rfl, rfl⟩
    | succ i =>
      have := ih i (by simpa using h)
      rw [show (i + 1) * 3 = i * 3 + 3 by omega]
      exact this
theorem OT_TV {B : Nat} {v : Value} {ts : List Nb.Tk} {W : World} (h : OT B v ts W) : TV W v ts.length (oK ts) (oA ts) (oT ts) := by
  rcases h.2 with ⟨hv, hn⟩ | ⟨g, cap, cur, hv, hg, hc, rest⟩
  · exact .inl ⟨hn, _, _, hv⟩
  · subst hv
    refine .inr ⟨g, cap, rfl, fun i hi => ?_⟩
    obtain ⟨t1, t2, t3⟩ := tkC_at ts i hi
    exact ⟨(World.ownsRow.cellAt h (i * 3) (by omega)).trans t1, (World.ownsRow.cellAt h (i * 3 + 1) (by omega)).trans t2, (World.ownsRow.cellAt h (i * 3 + 2) (by omega)).trans t3⟩
theorem OT_TW {B : Nat} {v : Value} {ts : List Nb.Tk} {W : World} (h : OT B v ts W) : TW W B v ts.length := by
  rcases h.2 with ⟨hv, hn⟩ | ⟨g, cap, cur, hv, hg, hc, rest⟩
  · exact .inl ⟨hn, _, _, hv⟩
  · subst hv
    refine .inr ⟨g, cap, rfl, hg, fun i hi => ?_⟩
    obtain ⟨t1, t2, t3⟩ := tkC_at ts i hi
    exact ⟨⟨_, (World.ownsRow.cellAt h (i * 3) (by omega)).trans t1⟩, ⟨_, (World.ownsRow.cellAt h (i * 3 + 1) (by omega)).trans t2⟩, ⟨_, (World.ownsRow.cellAt h (i * 3 + 2) (by omega)).trans t3⟩, World.ownsRow.frozenAt h _, World.ownsRow.frozenAt h _, World.ownsRow.frozenAt h _⟩
/-- What is below a block stays where only blocks from it on are written. -/
theorem OT_keep {B B' : Nat} {v : Value} {ts : List Nb.Tk} {W W' : World} (h : OT B v ts W) (hW : W.heap.size ≤ B') {V : World} (hV : Below W.heap.size W V) (hb : Below B' V W') : TV W' v ts.length (oK ts) (oA ts) (oT ts) := by
  rcases OT_TV h with h | ⟨g, c, rfl, ht⟩
  · exact .inl h
  · refine .inr ⟨g, c, rfl, fun i hi => ?_⟩
    obtain ⟨t1, t2, t3⟩ := TR_later ht hV i hi
    have hg : g < B' := Nat.lt_of_lt_of_le (World.block_lt_of_cell? W _ (ht i hi).1) hW
    exact ⟨(hb.cell (p := ⟨g, i * 3, none⟩) hg).trans t1, (hb.cell (p := ⟨g, i * 3 + 1, none⟩) hg).trans t2, (hb.cell (p := ⟨g, i * 3 + 2, none⟩) hg).trans t3⟩
/-- No token where there is a code. -/
theorem toksL_nil {l : List UInt8} : ∀ (n a : Nat) (out : List Nb.Tk), l.length - a ≤ n → (Nb.toksL l a out).2.1 ≠ 0 → (Nb.toksL l a out).1 = [] := by
  intro n
  induction n with
  | zero => intro a out h hc; rw [Nb.toksL_end (by omega)] at hc; exact absurd rfl hc
  | succ n ih =>
    intro a out h hc
    by_cases h1 : a < l.length
    · by_cases h2 : l[a] = 32 ∨ l[a] = 10
      · rw [Nb.toksL_skip h1 h2] at hc ⊢; exact ih _ _ (by omega) hc
      · by_cases h3 : (Nb.tokL (l.drop a)).1 = 0
        · by_cases h4 : out.length = 16384
          · rw [Nb.toksL_many h1 h2 h3 h4]
          · rw [Nb.toksL_step h1 h2 h3 h4] at hc ⊢
            have := Nb.tokL_fit h3
            rw [List.length_drop] at this
            exact ih _ _ (by omega) hc
        · rw [Nb.toksL_bad h1 h2 h3]
    · rw [Nb.toksL_end (by omega)] at hc; exact absurd rfl hc
/-- What both answer. -/
def tkR (s : ByteArray) : List Nb.Tk × Nat × Nat := if s.size ≤ 65536 then Nb.toksL (L s) 0 [] else ([], 2, 0)
theorem tkR_len (s : ByteArray) : (tkR s).1.length ≤ 20000 := by
  unfold tkR
  split
  · exact Nat.le_trans (Nb.toksL_len _ 0 [] (Nat.le_refl _) (Nat.zero_le _)) (by omega)
  · exact Nat.zero_le _
theorem iTokensR (s : ByteArray) (w : World) (hs : s.size ≤ maxLen) (hM : Mk w) (h0 : 0 < w.heap.size) :
    Calls Tryd.prog 5 #[.string s] w fun e w' => (∃ v, e = .returned (.tuple #[v, .int .i64 ((tkR s).2.1 : Nat), .int .i64 ((tkR s).2.2 : Nat)]) ∧ OT w.heap.size v (tkR s).1 w') ∧ Below w.heap.size w w' := by
  by_cases h : s.size ≤ 65536
  · have e : tkR s = Nb.toksL (L s) 0 [] := if_pos h
    rw [e]
    refine (iTokens s w h hM h0 _ rfl).mono ?_
    rintro _ w' ⟨⟨v, rfl, h1, h2⟩, hb⟩
    refine ⟨⟨v, rfl, ?_⟩, hb⟩
    by_cases hc : (Nb.toksL (L s) 0 []).2.1 = 0
    · exact h1 hc
    · rw [h2 hc, toksL_nil _ 0 [] (Nat.le_refl _) hc]; exact OT_nil _ _
  · have e : tkR s = ([], 2, 0) := if_neg h
    rw [e]
    refine (iTooLong s w hs (by omega)).mono ?_
    rintro _ w' ⟨rfl, hb⟩
    exact ⟨⟨_, rfl, OT_nil _ _⟩, hb⟩
end Go.Proofs.YtdgiidlaafbgcaaDoor
