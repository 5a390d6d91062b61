/- The program's watch. -/
import Derived.Test.YtnoklbnacfmpdabP4
namespace Go.Proofs.Ytnoklbnacfmpdab
open Go Go.RowKit Gs
set_option linter.unusedVariables false
set_option linter.unusedSimpArgs false
set_option maxRecDepth 100000
theorem svA_at {n : Nat} {sv : Nat → Value} {p : Nat} (h : p < 2 * n + 2) : (svA n sv)[p]? = some (sv p) := by
  unfold svA
  simp [List.getElem?_range h]
theorem FM.svq {B n : Nat} {ex : Option Nat} {W : World} {s : FS} (h : FM B n ex W s) {p : Nat} (hp : p < 2 * n + 2) : W.cell? ⟨s.ob, p, none⟩ = some (s.sv p) := by
  simp only [World.cell?, h.ho]; exact svA_at hp
set_option maxHeartbeats 6400000 in
theorem iWatch {B n : Nat} {ex : Option Nat} {w W : World} {s : FS} (h : FM B n ex W s) (hbw : Below B w W) (hBW : B ≤ W.heap.size) {l : Int} (hl : Lit n l) (hex : ex ≠ some (plN l)) (i : Nat) (hlen : (s.ws l).length ≤ 1048576) (hn : n ≤ 2048) : Calls Try.prog 31 #[.pointer (some ⟨s.b, 0, none⟩), .int .i64 l, hd s.ln s.cap i] W fun e w' => e = .returned (.tuple #[]) ∧ Below B w w' ∧ W.heap.size ≤ w'.heap.size ∧ ∃ v', FM B n ex w' { s with sv := upV s.sv (plN l) v', ws := upW s.ws l (s.ws l ++ [i]) } := by
  have hpl := plN_lt hl
  have HPL := hide (iPl n l W hl hn)
  have hrow := h.hw (plN l) hpl hex
  rw [ltP_plN] at hrow
  have HTV : Hid (W.ownsRow B 28 1 (s.sv (plN l)) ((s.ws l).map (hd s.ln s.cap)).length ((s.ws l).map (hd s.ln s.cap))) := hide (by rw [List.length_map]; exact hrow)
  have HAL : Hid (((s.ws l).map (hd s.ln s.cap)).length ≤ 1048576) := hide (by rw [List.length_map]; exact hlen)
  have HSZ := hide hBW
  have HC3 := hide h.q3
  have HCH := hide (h.svq hpl)
  have HGB := hide h.ho
  have HNB : Hid (∀ k, (s.sv (plN l)).ownBlock = some k → k ≠ s.b ∧ k ≠ s.ob) := hide (fun k hk => by
    obtain ⟨_, o, h2⟩ := h.d5 _ k hpl hk
    exact ⟨ty_ne h2 h.hb (by decide), ty_ne h2 h.ho (by decide)⟩)
  have htv : ∃ a m c, s.sv (plN l) = .slice a m c := by
    obtain ⟨a, c, e⟩ := own_shape hrow
    exact ⟨a, _, c, e⟩
  have HF := hide h
  have HB := hide hbw
  clear h hbw hBW hrow
  go_enter Try.func31, Try.ntmps31
  go_wp2_with fail
  refine (unhide HPL).mono ?_
  rintro e W1 ⟨rfl, hw⟩
  have hw' := hw.symm
  subst hw'
  go_wp2_with fail
  refine waRow HTV HAL hpl HSZ HC3 HCH HGB HNB htv ⟨_, _, _, rfl⟩ _ rfl rfl rfl rfl ?_
  intro a V V1 V0 v hnt hdf hOI hV0 hgr hob hV
  subst hV
  have hF0 := (unhide HF).later hV0
  have hsz := hV0.size
  rw [List.length_map] at hOI
  have hR := hF0.row (lit := l) (i := i) (v' := v) hl hex hOI hgr hob (by have := unhide HSZ; omega)
  have hg2 := hgr.size
  refine bodyPost_end (v := .tuple #[]) (by simp [results, Try.results31, go_sem]) hdf ⟨rfl, ?_, by simp; omega, v, hR⟩
  have b0 : Below B w V0 := (unhide HB).trans (hV0.mono (unhide HSZ))
  exact (b0.grown hgr (by have := unhide HSZ; omega) (fun j hj => (World.ownsRow.lt (unhide HTV) j hj).1)).setCell (p := ⟨s.ob, plN l, none⟩) (unhide HF).lo.2.2.1 _
end Go.Proofs.Ytnoklbnacfmpdab
