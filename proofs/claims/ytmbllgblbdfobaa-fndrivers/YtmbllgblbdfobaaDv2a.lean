/- Slices of strings of one's own: appends in a region that draws its order. -/
import Derived.Test.YtmbllgblbdfobaaDv1
import Derived.Test.YtmbllgblbdfobaaAt
import Derived.Deep.RegionHeld3
namespace Go.Proofs.Ytmbllgblbdfobaa
open Go.RowKit
theorem BL_below {B : Nat} {a : Option Addr} {n : Nat} {W W' : World} (h : BL B a n W) (hb : Below B W W') : BL B a n W' := by
  rcases h with h | ⟨cb, off, rfl, hcb, hc⟩
  · exact .inl h
  · refine .inr ⟨cb, off, rfl, hcb, fun i hi => ?_⟩
    obtain ⟨x, hx⟩ := hc i hi
    exact ⟨x, by rw [World.cell?_of_block (hb.block cb hcb)]; exact hx⟩
theorem S_isEmpty {l : List UInt8} (h : l ≠ []) : (S l).toList.isEmpty = false := by
  rw [ByteArray.toList_eq]
  show (L (S l)).isEmpty = false
  rw [L_S]
  cases l with
  | nil => exact absurd rfl h
  | cons _ _ => rfl
theorem OS_some {B : Nat} {v : Value} {ss : List ByteArray} {W : World} (h : OS B v ss W) (h1 : v ≠ .slice none 0 0) : ∃ g cap, v = .slice (some ⟨g, 0, none⟩) ss.length cap ∧ B ≤ g ∧ ss.length ≤ cap ∧ cap ≤ maxLen := by
  rcases h.2 with ⟨hn, _⟩ | ⟨g, cap, cur, rfl, hb, hg, hl, hm, _⟩
  · exact absurd hn h1
  · exact ⟨g, cap, rfl, hb, hl, hm⟩
theorem OS_cells {B g cap : Nat} {ss : List ByteArray} {W : World} (h : OS B (.slice (some ⟨g, 0, none⟩) ss.length cap) ss W) : ∀ i, (hi : i < ss.length) → W.cell? ⟨g, i, none⟩ = some (.string ss[i]) := by
  intro i hi
  have := World.ownsRow.cells h (g := g) rfl i (.string ss[i]) (by rw [List.getElem?_map, List.getElem?_eq_getElem hi]; rfl)
  rw [Addr.add_lit] at this
  simpa using this
theorem drop_news {h c r nq : Nat} {os : List ByteArray} {k : Nat} {W : World} (hc : ∀ i, (hi : i < os.length) → W.cell? ⟨h, i, none⟩ = some (.string os[i])) (hol : os.length = k) (hkc : os.length ≤ c) (hr : r ≤ k) : ∀ j u, ((os.drop r).map Value.string)[j]? = some u → ((W.drewN nq).alloc (.cells #[] 9)).cell? ((⟨h, if c = r then 0 else r, none⟩ : Addr).add j) = some u := by
  intro j u hu
  rw [List.getElem?_map, List.getElem?_drop] at hu
  by_cases hj : r + j < os.length
  · rw [List.getElem?_eq_getElem hj] at hu
    obtain rfl : Value.string os[r + j] = u := by simpa using hu
    rw [if_neg (by omega), Addr.add_lit]
    exact cell_later (bal (below_drewN (brf W) nq) _) (hc _ hj)
  · rw [List.getElem?_eq_none (by omega)] at hu; cases hu
theorem slice_if {c r h m n : Nat} (d1 d2 : Decidable (c = r)) : Value.slice (@ite _ (c = r) d1 (some (⟨h, 0, none⟩ : Addr)) (some ⟨h, r, none⟩)) m n = Value.slice (some ⟨h, @ite _ (c = r) d2 0 r, none⟩) m n := by
  by_cases e : c = r
  · rw [if_pos e, if_pos e]
  · rw [if_neg e, if_neg e]
theorem OS_mono {B B' : Nat} {v : Value} {ss : List ByteArray} {W : World} (h : OS B v ss W) (hB : B' ≤ B) : OS B' v ss W := by
  refine ⟨h.1, ?_⟩
  rcases h.2 with hn | ⟨g, cap, cur, hv, hb, rest⟩
  · exact .inl hn
  · exact .inr ⟨g, cap, cur, hv, by omega, rest⟩
/-- An append to a row of strings of one's own. -/
theorem wpS {o : Oper} {a : Act} {w : World} {K : Act → World → Prop} {Q : Exit → Act → World → Prop} (s x : Operand)
    (ho : o.op = .call { callee := .builtin .append, args := #[s, x], argTypes := #[33, 33] }) {Z g0 n0 c0 : Nat} {xs : List ByteArray} (hs : a.eval s = .slice (some ⟨g0, 0, none⟩) n0 c0) (hown : OS Z (.slice (some ⟨g0, 0, none⟩) n0 c0) xs w)
    (ad : Addr) (m c : Nat) (news : List ByteArray) (hx : a.eval x = .slice (some ad) m c) (hl : news.length = m) (hnews : ∀ j, (h : j < news.length) → w.cell? (ad.add j) = some (.string news[j])) (h63 : xs.length + m ≤ 1000) (hZ : Z ≤ w.heap.size) (n5 : Nat) (hn5 : n5 ≤ Z) (ys : List ByteArray) (hys : xs ++ news = ys) (N : Nat) (hN : ys.length = N)
    (h : ∀ g cap w', OS Z (.slice (some ⟨g, 0, none⟩) N cap) ys w' → N ≤ cap → cap ≤ maxLen → w.grownBy w' (some g0) → Below n5 w w' → K (a.put o.dst (.slice (some ⟨g, 0, none⟩) N cap)) w') :
    Oper.wp Try.prog o a w K Q := by
  obtain ⟨i9, hi9, hy0, hy1, hy2⟩ := info_parts str_info9
  refine wp_append_own w s x 33 ho Z 9 i9 (.string ByteArray.empty) 1 16 Try.underlying33 hi9 hy0 hy1 hy2 rfl (by decide) _ xs.length (xs.map Value.string) hs hown ad m c (news.map Value.string) hx (by simp [hl]) ?_ ?_ (by unfold maxLen; omega) (by omega) hZ ?_
  · intro j u hu
    rw [List.getElem?_map] at hu
    by_cases hj : j < news.length
    · rw [List.getElem?_eq_getElem hj] at hu
      obtain rfl : Value.string news[j] = u := by simpa using hu
      exact hnews j hj
    · rw [List.getElem?_eq_none (by omega)] at hu; cases hu
  · intro u hu; obtain ⟨y, _, rfl⟩ := List.mem_map.1 hu; rfl
  · intro v' w' hown' hgrow hnil
    have hO : OS Z v' (xs ++ news) w' := by unfold OS; rw [List.length_append, List.map_append, hl]; exact hown'
    have hne : v' ≠ .slice none 0 0 := fun e => by have := (hnil.1 e).1; cases this
    obtain ⟨g, cap, rfl, hg, hc, hm⟩ := OS_some hO hne
    rw [hys, hN] at hO hc ⊢
    exact h g cap w' hO hc hm hgrow ((brf w).mono (by omega) |>.grown hgrow (by omega) (fun k hk => by have := (World.ownsRow.lt hown k hk).1; omega))
/-- An append to a row of strings of one's own, as a step of a region that draws its order. -/
theorem stepS {ops : Array Oper} {o : Oper} {a : Act} {w : World} {K : Act → World → Prop} {Q : Exit → Act → World → Prop} {E : Prop} (hgd : o.guard = none) (s x : Operand)
    (ho : o.op = .call { callee := .builtin .append, args := #[s, x], argTypes := #[33, 33] }) {Z g0 n0 c0 : Nat} {xs : List ByteArray} (hs : a.eval s = .slice (some ⟨g0, 0, none⟩) n0 c0) (hown : OS Z (.slice (some ⟨g0, 0, none⟩) n0 c0) xs w)
    (ad : Addr) (m c : Nat) (news : List ByteArray) (hx : a.eval x = .slice (some ad) m c) (hl : news.length = m) (hnews : ∀ j, (h : j < news.length) → w.cell? (ad.add j) = some (.string news[j])) (h63 : xs.length + m ≤ 1000) (hZ : Z ≤ w.heap.size) (n5 : Nat) (hn5 : n5 ≤ Z) (ys : List ByteArray) (hys : xs ++ news = ys) (N : Nat) (hN : ys.length = N)
    (h : ∀ g cap w', OS Z (.slice (some ⟨g, 0, none⟩) N cap) ys w' → N ≤ cap → cap ≤ maxLen → w.grownBy w' (some g0) → Below n5 w w' → K (a.put o.dst (.slice (some ⟨g, 0, none⟩) N cap)) w') :
    if Region.wanted o (yielded ops a.tmps) = true then Oper.wp Try.prog o a w K Q else E := by
  have hw : Region.wanted o (yielded ops a.tmps) = true := by simp [Region.wanted, hgd]
  rw [if_pos hw]
  exact wpS s x ho hs hown ad m c news hx hl hnews h63 hZ n5 hn5 ys hys N hN h
/-- An append to a row of strings of one's own, in a list of operations. -/
theorem listS {ops : Array Oper} {rest : List Oper} {o : Oper} {a : Act} {w : World} {Q : Exit → Act → World → Prop} (hgd : o.guard = none) (s x : Operand)
    (ho : o.op = .call { callee := .builtin .append, args := #[s, x], argTypes := #[33, 33] }) {Z g0 n0 c0 : Nat} {xs : List ByteArray} (hs : a.eval s = .slice (some ⟨g0, 0, none⟩) n0 c0) (hown : OS Z (.slice (some ⟨g0, 0, none⟩) n0 c0) xs w)
    (ad : Addr) (m c : Nat) (news : List ByteArray) (hx : a.eval x = .slice (some ad) m c) (hl : news.length = m) (hnews : ∀ j, (h : j < news.length) → w.cell? (ad.add j) = some (.string news[j])) (h63 : xs.length + m ≤ 1000) (hZ : Z ≤ w.heap.size) (n5 : Nat) (hn5 : n5 ≤ Z) (ys : List ByteArray) (hys : xs ++ news = ys) (N : Nat) (hN : ys.length = N)
    (h : ∀ g cap w', OS Z (.slice (some ⟨g, 0, none⟩) N cap) ys w' → N ≤ cap → cap ≤ maxLen → w.grownBy w' (some g0) → Below n5 w w' → wpList Try.prog ops Q rest (a.put o.dst (.slice (some ⟨g, 0, none⟩) N cap)) w') :
    wpList Try.prog ops Q (o :: rest) a w :=
  wpList_plain hgd fun _ hK => wpS s x ho hs hown ad m c news hx hl hnews h63 hZ n5 hn5 ys hys N hN (fun g cap w' h1 h2 h3 h4 h5 => hK _ _ (h g cap w' h1 h2 h3 h4 h5))
theorem keepA {ad : Addr} {x : ByteArray} {n5 : Nat} {w5 W : World} {o : Obj} (hn : n5 ≤ w5.heap.size) (hc : w5.cell? ad = some (.string x)) (ha : ad.block < n5) (h : W.cell? ad = some (.string x) ∧ Below n5 w5 W) : (W.alloc o).cell? ad = some (.string x) ∧ Below n5 w5 (W.alloc o) := by
  have hb := h.2.alloc (by have := h.2.size; omega) o
  exact ⟨by rw [World.cell?_of_block (hb.block _ ha)]; exact hc, hb⟩
theorem keepB {ad : Addr} {x : ByteArray} {n5 : Nat} {w5 W W' : World} (hc : w5.cell? ad = some (.string x)) (ha : ad.block < n5) (h : W.cell? ad = some (.string x) ∧ Below n5 w5 W) (hw : Below n5 W W') : W'.cell? ad = some (.string x) ∧ Below n5 w5 W' := by
  have hb := h.2.trans hw
  exact ⟨by rw [World.cell?_of_block (hb.block _ ha)]; exact hc, hb⟩
theorem SL_at {a : Option Addr} {n : Nat} {ss : List ByteArray} {W : World} (h : SL a n ss W) (h1 : 1 ≤ n) : ∃ b off, a = some ⟨b, off, none⟩ ∧ ∀ i, (h : i < ss.length) → W.cell? ⟨b, off + i, none⟩ = some (.string ss[i]) := by
  rcases h.2 with h | h
  · omega
  · exact h
theorem OS_alloc {Z : Nat} {v : Value} {xs : List ByteArray} {w : World} (h : OS Z v xs w) (o : Obj) : OS Z v xs (w.alloc o) := World.ownsRow.alloc h o
theorem OS_le {w : World} {Z g n cap : Nat} {xs : List ByteArray} (h : OS Z (.slice (some ⟨g, 0, none⟩) n cap) xs w) : Z ≤ w.heap.size := by
  have := World.ownsRow.lt h g rfl
  omega
theorem add0 (b j : Nat) : (⟨b, 0, none⟩ : Addr).add j = ⟨b, j, none⟩ := by rw [Addr.add_lit, Nat.zero_add]
theorem row_news {n5 gb : Nat} {ad : Addr} {x : ByteArray} {os : List ByteArray} {w5 W : World} (hC : ∀ i, (hi : i < os.length) → w5.cell? ⟨gb, i, none⟩ = some (.string os[i])) (hgb : gb < n5) (hS : W.cell? ad = some (.string x) ∧ Below n5 w5 W) : ∀ j, (h : j < os.length) → W.cell? ((⟨gb, 0, none⟩ : Addr).add j) = some (.string os[j]) := by
  intro j hj
  rw [add0, World.cell?_of_block (hS.2.block gb hgb)]
  exact hC j hj
theorem take_cells {gb r : Nat} {os : List ByteArray} {w5 : World} (hC : ∀ i, (hi : i < os.length) → w5.cell? ⟨gb, i, none⟩ = some (.string os[i])) : ∀ j, (h : j < (os.take r).length) → w5.cell? ⟨gb, j, none⟩ = some (.string (os.take r)[j]) := by
  intro j hj
  rw [List.length_take] at hj
  rw [List.getElem_take]
  exact hC j (by omega)
theorem one_news {L : Nat} {x : ByteArray} {W : World} (hc : W.cell? ⟨L, 0, none⟩ = some (.string x)) : ∀ j, (h : j < [x].length) → W.cell? ((⟨L, 0, none⟩ : Addr).add j) = some (.string [x][j]) := by
  intro j hj
  have : j = 0 := by simpa using hj
  subst this
  rw [add0]; exact hc
theorem one_cell (X : World) (v : Value) (t : TypeId) : (X.alloc (.cells #[v] t)).cell? ⟨X.heap.size, 0, none⟩ = some v := cells_at (heap_alloc_new _ _) rfl
theorem OS_start' {w : World} {B M : Nat} (hM : w.heap.size = M) (h : B ≤ M) : OS B (.slice (some ⟨M, 0, none⟩) 0 0) [] (w.alloc (.cells #[] 9)) := by subst hM; exact OS_start h
theorem one_cell' {X : World} {v : Value} {t : TypeId} {M : Nat} (hM : X.heap.size = M) : (X.alloc (.cells #[v] t)).cell? ⟨M, 0, none⟩ = some v := by subst hM; exact one_cell X v t
theorem one_cell2 {X : World} {v : Value} {t : TypeId} {o : Obj} {M : Nat} (hM : X.heap.size = M) : ((X.alloc (.cells #[v] t)).alloc o).cell? ⟨M, 0, none⟩ = some v := cell_later (bal (brf _) _) (one_cell' hM)
theorem OS_lit {w : World} {B M : Nat} {x : ByteArray} (hM : w.heap.size = M) (h : B ≤ M) : OS B (.slice (some ⟨M, 0, none⟩) 1 1) [x] (w.alloc (.cells #[.string x] 9)) := by
  subst hM
  exact ⟨rfl, .inr ⟨w.heap.size, 1, #[.string x], rfl, h, heap_alloc_new w _, Nat.le_refl _, by decide, rfl, rfl⟩⟩
theorem SL_news {g n : Nat} {ss : List ByteArray} {W W' : World} (h : SL (some ⟨g, 0, none⟩) n ss W) (hb : Below W.heap.size W W') : ∀ j, (hj : j < ss.length) → W'.cell? ((⟨g, 0, none⟩ : Addr).add j) = some (.string ss[j]) := by
  intro j hj
  rcases h.2 with h0 | ⟨b, off, e, hc⟩
  · have := h.1; omega
  · simp only [Option.some.injEq, Addr.mk.injEq, and_true] at e
    obtain ⟨rfl, rfl⟩ := e
    rw [Addr.add_lit]
    exact cell_later hb (hc j hj)
theorem bal' {B : Nat} {w W : World} (h : Below w.heap.size w W) (o : Obj) (hB : B ≤ w.heap.size) : Below B w (W.alloc o) := (h.alloc h.size o).mono hB
theorem SL_lt {g off n : Nat} {ss : List ByteArray} {W : World} (h : SL (some ⟨g, off, none⟩) n ss W) (h1 : 1 ≤ n) : g < W.heap.size := by
  rcases h.2 with h0 | ⟨b, o, e, hc⟩
  · omega
  · simp only [Option.some.injEq, Addr.mk.injEq, and_true] at e
    obtain ⟨rfl, rfl⟩ := e
    exact World.block_lt_of_cell? W _ (hc 0 (by have := h.1; omega))
end Go.Proofs.Ytmbllgblbdfobaa
