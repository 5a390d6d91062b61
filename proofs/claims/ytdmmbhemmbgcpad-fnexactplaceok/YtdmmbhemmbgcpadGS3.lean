/- What a row's reading of an argument gives: the datum that its cells hold. -/
import Derived.Test.YtdmmbhemmbgcpadGS
import Derived.Test.YtdmmbhemmbgcpadBase
import Derived.ChangeArms
import Derived.ChangeSame
import Derived.Deep.Strs
namespace Go.Proofs.Ytdmmbhemmbgcpad.Gs
open Go Go.RowKit
set_option linter.unusedVariables false
theorem choose_lt {α : Type} [Inhabited α] {n : Nat} {p : Nat → α → Prop} (h : ∀ i, i < n → ∃ x, p i x) : ∃ f : Nat → α, ∀ i, i < n → p i (f i) :=
  ⟨fun i => if hi : i < n then Classical.choose (h i hi) else default, fun i hi => by simp only [dif_pos hi]; exact Classical.choose_spec (h i hi)⟩
section
variable {H : Type} {enc : TypeId × Value → H} {P : Program} {w : World}
/-- Whatever of that type is read holds a datum. -/
def Opens {α : Type} (enc : TypeId × Value → H) (P : Program) (w : World) (t : TypeId) (k : Nat) (R : Rd α) : Prop := P.cellsOf t = k ∧ ∀ (fuel : Nat) (cs : List Value) (x : DataW H × List MemPlace), DataW.trod enc P w 0 (fun _ => true) true fuel t cs = some x → cs.length = k ∧ ∃ a : α, R w 0 a cs
theorem opens_int {t : TypeId} (h : P.underlying t = some (.int .i64)) (hc : P.cellsOf t = 1) : Opens enc P w t 1 RInt := ⟨hc, fun fuel cs x hx => by
  obtain ⟨k, hk, _, _⟩ := DataW.trod_int h hx
  subst hk
  exact ⟨rfl, k, rfl⟩⟩
theorem opens_str {t : TypeId} (h : P.underlying t = some .string) (hc : P.cellsOf t = 1) : Opens enc P w t 1 RStr := ⟨hc, fun fuel cs x hx => by
  obtain ⟨s, hs, _, hb⟩ := DataW.trod_string h hx
  subst hs
  exact ⟨rfl, s, rfl, hb⟩⟩
theorem opens_slice {α : Type} [Inhabited α] {tS tE : TypeId} {k : Nat} {R : Rd α} (hS : P.underlying tS = some (.slice tE)) (hk : 0 < k) (hE : Opens enc P w tE k R) :
    ∀ (fuel : Nat) (cs : List Value) (x : DataW H × List MemPlace), DataW.trod enc P w 0 (fun _ => true) true fuel tS cs = some x → ∃ (xs : List α) (v : Value), cs = [v] ∧ RS k R w 0 xs v := by
  intro fuel cs x h
  rcases DataW.trod_slice hS h with ⟨hcs, _⟩ | ⟨a, len, cap, elems, rest, n', hf', hcs, _, _, hlc, hcm, hlen, hel, _, _⟩
  · exact ⟨[], _, hcs, RS.nil _ _ _ _ _ _⟩
  · by_cases hz : len = 0
    · subst hz
      exact ⟨[], _, hcs, RS.nil _ _ _ _ _ _⟩
    · have key : ∀ i, i < len → ∃ q : α × List Value, q.2.length = k ∧ (∀ j y, q.2[j]? = some y → w.cell? (a.add (i * k + j)) = some y) ∧ R w 0 q.1 q.2 := by
        intro i hi
        have he := hel i hi
        rw [List.getElem?_eq_getElem (by omega), hE.1] at he
        obtain ⟨cs', hc', ht'⟩ := Option.bind_eq_some_iff.1 he
        obtain ⟨hl, d, hd⟩ := hE.2 n' _ _ ht'
        obtain ⟨hlc', _, hcell⟩ := World.cells?_some hc'
        refine ⟨(d, cs'), hl, fun j y hj => ?_, hd⟩
        have hjl : j < k := by rw [← hl]; exact (List.getElem?_eq_some_iff.1 hj).1
        have hc := hcell j (by omega)
        rw [hj] at hc
        simpa [Go.Deep.add_add] using hc
      have : Inhabited (α × List Value) := ⟨(default, [])⟩
      obtain ⟨f, hf⟩ := choose_lt (α := α × List Value) key
      have hspot : a.spot = none := by
        obtain ⟨h1, h2, _⟩ := hf 0 (by omega)
        obtain ⟨y, hy⟩ : ∃ y, (f 0).2[0]? = some y := ⟨_, List.getElem?_eq_getElem (by omega)⟩
        simpa [Addr.add] using World.cell?_spot (h2 0 y hy)
      obtain ⟨b, o, sp⟩ := a
      have hspot' : sp = none := hspot
      subst hspot'
      refine ⟨(List.range len).map fun i => (f i).1, _, hcs, some ⟨b, o, none⟩, cap, by simp, by simp; omega, by simp; omega, fun _ => ⟨b, o, rfl, Nat.zero_le _, fun i x hx => ?_⟩⟩
      simp only [List.getElem?_map, Option.map_eq_some_iff] at hx
      obtain ⟨i', hi', rfl⟩ := hx
      have hil : i < len := by simpa using (List.getElem?_eq_some_iff.1 hi').1
      have hii : i' = i := by simpa [List.getElem?_range hil] using hi'.symm
      subst hii
      obtain ⟨h1, h2, h3⟩ := hf i' hil
      refine ⟨(f i').2, h1, fun j y hj => ?_, h3⟩
      have := h2 j y hj
      rw [Addr.add_lit, ← Nat.add_assoc] at this
      exact this
theorem opens_row {α : Type} [Inhabited α] {tS tE : TypeId} {k : Nat} {R : Rd α} (hS : P.underlying tS = some (.slice tE)) (hc : P.cellsOf tS = 1) (hk : 0 < k) (hE : Opens enc P w tE k R) : Opens enc P w tS 1 (RL k R) := ⟨hc, fun fuel cs x h => by
  obtain ⟨xs, v, rfl, hr⟩ := opens_slice hS hk hE fuel cs x h
  exact ⟨rfl, xs, v, rfl, hr⟩⟩
end
end Go.Proofs.Ytdmmbhemmbgcpad.Gs
