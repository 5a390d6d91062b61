/- The program's newFollowing. -/
import Derived.Test.YtnoklbnacfmpdabP12
namespace Go.Proofs.Ytnoklbnacfmpdab
open Go Go.RowKit Gs
set_option linter.unusedVariables false
set_option linter.unusedSimpArgs false
set_option maxRecDepth 100000
def FS.new (b vb ob mb n : Nat) : FS := { b := b, vb := vb, ob := ob, mb := mb, vs := zeros (n + 1), ms := zeros (2 * n + 2), t := [], tv := .slice none 0 0, fol := 0, rnd := 0, brk := false, sv := fun _ => .slice none 0 0, ids := [], cl := fun _ => [], ws := fun _ => [], ln := fun _ => 0, cap := fun _ => 0, xc := #[], fx := [] }
theorem svA_nil (n : Nat) : svA n (fun _ => .slice none 0 0) = rowsN (2 * n + 2) := by
  unfold svA rowsN
  rw [List.map_const', List.length_range]
theorem AD.start {n : Nat} {w V : World} {v : Value} (h : nfF w n (n + 1) (2 * n) (2 * n + 2) 13 V v) (hb : Below w.heap.size w V) : ∃ s : FS, v = .pointer (some ⟨s.b, 0, none⟩) ∧ AD w.heap.size n w [] s V := by
  obtain ⟨b, vb, ob, mb, h1, h0, h9, h2, h3, h4, h5, h6, h7⟩ := h
  have hne : vb ≠ mb := fun e => by
    subst e
    rw [h5] at h7
    injection h7 with h7
    injection h7 with h7
    have := congrArg Array.size h7
    simp [iC, zeros] at this
    omega
  refine ⟨FS.new b vb ob mb n, h1, ⟨⟨h0, h2, h3, h4, fun i hi => by cases hi⟩, h9, h5, ?_, h7, ⟨rfl, .inl ⟨rfl, rfl⟩⟩, fun p hp _ => ⟨rfl, .inl ⟨rfl, rfl⟩⟩, (fun i hi => by cases hi), hne, (fun j hj => by cases hj), (fun i hi => by cases hi), (fun p q j _ _ hj => by cases hj), (fun p j _ hj => by cases hj), by simp [FS.new, zeros], by simp [FS.new, zeros], (fun p j he => by cases he), fun q hq => by cases hq⟩, hb, hb.size, ?_, (fun o => by cases o), Nat.le_refl _, fun _ => rfl, ?_, Nat.le_refl _, Nat.le_refl _⟩
  · show V.heap[ob]? = some (.cells (svA n (fun _ => .slice none 0 0)) 22)
    rw [h6, svA_nil]
  · refine ⟨⟨(fun l hl => by cases hl), by simp [FS.new]⟩, VR.zero n, ⟨(fun i hi => by cases hi), (fun i hi => by cases hi), (fun l i hi => by cases hi), fun l => List.nodup_nil⟩, fun _ => ⟨(fun i hi => by cases hi), (fun c hc => by cases hc)⟩, (fun _ i hi => by cases hi), (fun _ i hi => by cases hi), (fun _ l hl => by cases hl), (fun l hl => hl), (fun l hl => hl), (fun l hl => hl), List.nodup_nil, by simp [FS.new]⟩
  · intro x hx
    have : x = 0 := by
      have h := hx
      simp [FS.new, zeros] at h
      exact h
    rw [this]; exact Int.le_refl _
set_option maxHeartbeats 6400000 in
theorem iNew (n : Nat) (w : World) (Cl : List (List Int)) (cv : Value) (hr : RS 1 RIntS w 0 Cl cv) (hC : ∀ c ∈ Cl, Lits n c) (hL : ∀ c ∈ Cl, c.length ≤ 4194304) (hlen : Cl.length ≤ 8192) (hn : n ≤ 2048) : Calls Try.prog 18 #[.int .i64 (n : Int), cv] w fun e w' => ∃ s : FS, e = .returned (.pointer (some ⟨s.b, 0, none⟩)) ∧ AD w.heap.size n w Cl s w' := by
  obtain ⟨ca, cc, rfl⟩ := hr.slice
  have HR := hide hr
  have HC := hide hC
  have HL := hide hL
  clear hr hC hL
  go_enter Try.func18, Try.ntmps18
  go_wp2_with fail
  refine nfRow hn rfl rfl rfl _ rfl rfl ?_
  intro a V hnt hdf hkeep hf hb
  obtain ⟨us, rfl, hus⟩ := putAll_of [8, 9, 10, 11, 12, 13, 14, 15, 16, 17, 18, 19, 20, 5] hnt hdf hkeep
  rw [← hus 5] at hf
  obtain ⟨s0, h5, had⟩ := AD.start hf hb
  clear hnt hdf hkeep hus hf
  simp only [putAll, List.foldl, Act.put, List.setIfInBounds_toArray, List.set_cons_zero, List.set_cons_succ, h5]
  generalize us 8 = z8 at *
  generalize us 9 = z9 at *
  generalize us 10 = z10 at *
  generalize us 11 = z11 at *
  generalize us 12 = z12 at *
  generalize us 13 = z13 at *
  generalize us 14 = z14 at *
  generalize us 15 = z15 at *
  generalize us 16 = z16 at *
  generalize us 17 = z17 at *
  generalize us 18 = z18 at *
  generalize us 19 = z19 at *
  generalize us 20 = z20 at *
  clear h5
  have HAD := hide had
  clear had hb
  go_wp2
  go_loopw [23] (fun i wr => ∃ (j : Nat) (s : FS), j ≤ Cl.length ∧ i = .int .i64 (j : Int) ∧ s.b = s0.b ∧ AD w.heap.size n w (Cl.take j) s wr) (fun i wr => Cl.length - (intOf i).toNat)
  case atStart => exact ⟨0, s0, Nat.zero_le _, rfl, rfl, unhide HAD⟩
  case round =>
    obtain ⟨j, s, hj, rfl, hsb, had⟩ := hrel
    clear HAD
    by_cases hjl : j < Cl.length
    · obtain ⟨y, hy⟩ : ∃ y, Cl[j]? = some y := ⟨_, List.getElem?_eq_getElem hjl⟩
      obtain ⟨sb, so, ya, yc, rfl, k0', hry⟩ := heads (unhide HR) j y hy
      have k0 := cell_later had.bl k0'
      have hym := List.mem_of_getElem? hy
      have HA := hide (iAdd had rfl y _ (unhide HC y hym) (unhide HL y hym) hry (by have := List.length_take_le j Cl; omega) hn)
      rw [hsb] at HA
      have HTK : Hid (Cl.take (j + 1) = Cl.take j ++ [y]) := hide (by rw [List.take_add_one, hy]; rfl)
      have j1 : (j : Int) < (Cl.length : Int) := by omega
      have j2 : (0 : Int) ≤ (j : Int) := by omega
      clear had k0' hry hy hym
      go_wp2_with fail
      refine (unhide HA).mono ?_
      rintro e W1 ⟨rfl, s', hb', had'⟩
      have HN := hide had'
      rw [← unhide HTK] at HN
      have hbb : s'.b = s0.b := hb'.trans hsb
      clear had' HA
      go_wp2
      exact ⟨⟨j + 1, s', by omega, by go_num, hbb, unhide HN⟩, by simp [intOf]; omega⟩
    · have hje : j = Cl.length := by omega
      rw [hje, List.take_of_length_le (Nat.le_refl _)] at had
      have j1 : ¬ ((j : Int) < (Cl.length : Int)) := by omega
      have HE := hide had
      clear had
      go_wp2
      exact bodyPost_ret (v := .pointer (some ⟨s0.b, 0, none⟩)) (by simp [results, Try.results18, go_sem]) rfl ⟨s, by rw [hsb], unhide HE⟩
end Go.Proofs.Ytnoklbnacfmpdab
