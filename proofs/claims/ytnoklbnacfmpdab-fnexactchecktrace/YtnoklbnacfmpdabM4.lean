/- A clause's literals change places. -/
import Derived.Test.YtnoklbnacfmpdabM3
namespace Go.Proofs.Ytnoklbnacfmpdab
open Go Go.RowKit Gs
set_option linter.unusedVariables false
set_option linter.unusedSimpArgs false
set_option maxRecDepth 100000
theorem FM.lit {B n : Nat} {ex : Option Nat} {W : World} {s : FS} (h : FM B n ex W s) {i : Nat} (hi : i ∈ s.ids) {k : Nat} {z : Int} (hz : (s.cl i)[k]? = some z) : W.cell? ⟨i, k, none⟩ = some (.int .i64 z) := by
  obtain ⟨_, cur, h2, h3⟩ := h.hc i hi
  have hk : k < (s.cl i).length := (List.getElem?_eq_some_iff.1 hz).1
  simp only [World.cell?, h2]
  have e : (cur.toList.take (s.cl i).length)[k]? = cur[k]? := by
    rw [List.getElem?_take, if_pos hk]; simp
  have e2 : cur[k]? = some (.int .i64 z) := by
    rw [← e, h3]; unfold iL; rw [List.getElem?_map, hz]; rfl
  exact e2
theorem FM.lfz {B n : Nat} {ex : Option Nat} {W : World} {s : FS} (h : FM B n ex W s) {i : Nat} (hi : i ∈ s.ids) (k : Nat) : W.frozen? ⟨i, k, none⟩ = false := by
  obtain ⟨_, cur, h2, h3⟩ := h.hc i hi
  simp [World.frozen?, h2]
theorem FM.two {B n : Nat} {ex : Option Nat} {W : World} {s : FS} (h : FM B n ex W s) {i : Nat} (hi : i ∈ s.ids) (hnd : s.ids.Nodup) (a b : Nat) (x y : Int) : FM B n ex ((W.setCell ⟨i, a, none⟩ (.int .i64 x)).setCell ⟨i, b, none⟩ (.int .i64 y)) { s with cl := upC s.cl i (((s.cl i).set a x).set b y) } := by
  obtain ⟨_, cur, h2, h3⟩ := h.hc i hi
  refine h.swap hi (fun _ _ _ => trivial) (((s.cl i).set a x).set b y) (by simp) ((cur.setIfInBounds a (.int .i64 x)).setIfInBounds b (.int .i64 y)) (heap_set (heap_set h2)) ?_ hnd (fun k hk => (Below.heap_setCell (W.setCell ⟨i, a, none⟩ (.int .i64 x)) ⟨i, b, none⟩ _ k hk).trans (Below.heap_setCell W ⟨i, a, none⟩ _ k hk))
  simp only [List.length_set, Array.toList_setIfInBounds, List.take_set]
  rw [h3]
  unfold iL
  rw [List.map_set, List.map_set]
def sw (c : List Int) : List Int := (c.set 0 (w1 c)).set 1 (w0 c)
def mv (c : List Int) (k : Nat) (lit gone : Int) : List Int := (c.set 1 lit).set k gone
theorem same_perm {c c' : List Int} (h : List.Perm c' c) : Same c c' := ⟨h.length_eq, fun hn => h.symm.nodup hn, fun l => h.mem_iff⟩
theorem w0_at {c : List Int} (h : 2 ≤ c.length) : w0 c = c[0] := by
  unfold w0; rw [List.getD_eq_getElem?_getD, List.getElem?_eq_getElem (by omega)]; rfl
theorem w1_at {c : List Int} (h : 2 ≤ c.length) : w1 c = c[1] := by
  unfold w1; rw [List.getD_eq_getElem?_getD, List.getElem?_eq_getElem (by omega)]; rfl
theorem sw_spec {c : List Int} (h : 2 ≤ c.length) : Same c (sw c) ∧ w0 (sw c) = w1 c ∧ w1 (sw c) = w0 c := by
  refine ⟨same_perm ?_, ?_, ?_⟩
  · unfold sw
    rw [w0_at h, w1_at h]
    exact List.set_set_perm (by omega) (by omega)
  · unfold sw
    generalize w1 c = x
    generalize w0 c = y
    unfold w0
    rw [List.getD_eq_getElem?_getD, List.getElem?_set_ne (by omega), List.getElem?_set_self (by omega)]
    rfl
  · unfold sw
    generalize w1 c = x
    generalize w0 c = y
    unfold w1
    rw [List.getD_eq_getElem?_getD, List.getElem?_set_self (by simp; omega)]
    rfl
theorem mv_spec {c : List Int} {k : Nat} {lit gone : Int} (h : 2 ≤ c.length) (hk : 2 ≤ k) (hz : c[k]? = some lit) (hg : w1 c = gone) : Same c (mv c k lit gone) ∧ w0 (mv c k lit gone) = w0 c ∧ w1 (mv c k lit gone) = lit := by
  obtain ⟨hkl, e⟩ := List.getElem?_eq_some_iff.1 hz
  refine ⟨same_perm ?_, ?_, ?_⟩
  · unfold mv
    rw [← hg, w1_at h, ← e]
    exact List.set_set_perm (by omega) hkl
  · unfold mv w0
    rw [List.getD_eq_getElem?_getD, List.getElem?_set_ne (by omega), List.getElem?_set_ne (by omega), List.getD_eq_getElem?_getD]
  · unfold mv w1
    rw [List.getD_eq_getElem?_getD, List.getElem?_set_ne (by omega), List.getElem?_set_self (by omega)]
    rfl
/-- An append that stays where it is. -/
theorem wpAppIn {ops : Array Oper} {rest : List Oper} {o : Oper} {a : Act} {Q : Exit → Act → World → Prop} {w : World} (hgd : o.guard = none) (s x : Operand)
    (ho : o.op = .call { callee := .builtin .append, args := #[s, x], argTypes := #[22, 22] })
    (g k c : Nat) (cur : Array Value) (hg : w.heap[g]? = some (.cells cur 28)) (hs : a.eval s = .slice (some ⟨g, 0, none⟩) k c)
    (ad : Addr) (m d : Nat) (news : List Value) (hx : a.eval x = .slice (some ad) m d) (hl : news.length = m) (hnews : ∀ j u, news[j]? = some u → w.cell? (ad.add j) = some u) (h1 : ∀ u ∈ news, u.oneCell' = true)
    (hroom : k + m ≤ c) (hfit : k + m ≤ cur.size)
    (cs : Array Value) (hcs : cs = (cur.toList.take k ++ news ++ cur.toList.drop (k + m)).toArray) (h : wpList Try.prog ops Q rest (a.put o.dst (.slice (some ⟨g, 0, none⟩) (k + m) c)) (w.setRow g cs)) : wpList Try.prog ops Q (o :: rest) a w := by
  obtain ⟨i0, hi, hz0, hz1, hz2⟩ := info_parts info28
  have hr := run_append_room (P := Try.prog) w 22 o.type 28 i0 Try.underlying22 hi g k c cur hg ad m d news (by rw [hz1, Nat.mul_one]; exact hl) hnews h1 hroom (by rw [hz1, Nat.mul_one, hl]; exact hfit)
  rw [hz1, Nat.mul_one, hl, ← hcs] at hr
  refine wpList_plain hgd fun K hK' => ?_
  unfold Oper.wp
  simp [execOp, ho, resolve, invoke, builtin, hs, hx, hr, Result.andThen]
  exact hK' _ _ h
end Go.Proofs.Ytnoklbnacfmpdab
