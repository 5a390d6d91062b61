/- fitsBehind. -/
import Derived.Test.YtdmmbhemmbgcpadCT
import Derived.BigQuiet
namespace Go.Proofs.Ytdmmbhemmbgcpad
open Go Go.RowKit Gs
set_option linter.unusedVariables false
set_option linter.unusedSimpArgs false
set_option maxRecDepth 100000
theorem bdq {w W : World} {n : Nat} (h : Below w.heap.size w W) : Below w.heap.size w (W.drewN n) := below_drewN h n
set_option maxHeartbeats 16000000 in
theorem iFits (xs : List Int) (t : Int) (n : Nat) (v : Value) (w : World) (hl : xs.length ≤ 1048576) (hn : n ≤ 4194304) (hr : RS 1 RInt w 0 xs v) :
    Calls Try.prog 48 #[.agg #[v, .int .i64 t], .int .i64 (n : Int)] w fun e w' => e = .returned (.bool (lutB n ⟨xs, t⟩)) ∧ Below w.heap.size w w' := by
  have HR : Hid (lutB n ⟨xs, t⟩ = (decide (xs.length ≤ 4) && (decide (0 ≤ t) && (decide (t ≤ ((tmask xs.length : Nat) : Int)) && insB n xs)))) := hide rfl
  generalize lutB n ⟨xs, t⟩ = RR at *
  have HCO := hide (fun (k : Nat) (x : Int) (V : World) (hb : Below w.heap.size w V) (hk : k ≤ xs.length) (b o c : Nat) (hv : v = .slice (some ⟨b, o, none⟩) xs.length c) => iContains (xs.take k) x (.slice (some ⟨b, o, none⟩) k c) V (by rw [List.length_take]; omega) (RS.take (hv ▸ hr.later RInt.keeps hb) hk))
  have HOP := hide hr
  obtain ⟨a, c, rfl⟩ := hr.slice
  clear hr
  obtain ⟨L, hL⟩ : ∃ L, xs.length = L := ⟨_, rfl⟩
  have HLL := hide hL
  by_cases k4 : (4 : Int) < (xs.length : Int)
  · have HF : Hid (RR = false) := hide (by rw [unhide HR, decide_eq_false (p := xs.length ≤ 4) (by omega)]; rfl)
    rw [hL]
    have q4 : decide ((4 : Int) < (L : Int)) = true := decide_eq_true (by omega)
    clear hL HR HCO HOP
    go_enter Try.func48, Try.ntmps48
    go_wp2
    go_quiet (fail)
    go_wp2
    exact bodyPost_ret (v := .bool false) (by simp [results, Try.results48, go_sem]) rfl ⟨by rw [unhide HF], bdq (bal (brf w) _)⟩
  by_cases kt : t < 0
  · have HF : Hid (RR = false) := hide (by rw [unhide HR, decide_eq_false (p := 0 ≤ t) (by omega)]; simp)
    rw [hL]
    have q4 : decide ((4 : Int) < (L : Int)) = false := decide_eq_false (by omega)
    have qt : decide (t < 0) = true := decide_eq_true kt
    clear hL HR HCO HOP
    go_enter Try.func48, Try.ntmps48
    go_wp2
    go_quiet (fail)
    go_wp2
    exact bodyPost_ret (v := .bool false) (by simp [results, Try.results48, go_sem]) rfl ⟨by rw [unhide HF], bdq (bal (brf w) _)⟩
  have q4 : decide ((4 : Int) < (L : Int)) = false := decide_eq_false (by omega)
  have qt : decide (t < 0) = false := decide_eq_false kt
  obtain ⟨T, hT⟩ : ∃ T, tmask xs.length = T := ⟨_, rfl⟩
  have HMK := hide (fun V => by have h := iMask xs.length (by omega) V; rw [hT, hL] at h; exact h)
  have HTR := hide (tmask_lt (k := xs.length) (by omega))
  rw [hT] at HTR HR
  by_cases km : (T : Int) < t
  · have HF : Hid (RR = false) := hide (by rw [unhide HR, decide_eq_false (p := t ≤ (T : Int)) (by omega)]; simp)
    rw [hL]
    have qm : decide ((T : Int) < t) = true := decide_eq_true km
    clear hL HR HCO HOP hT HTR kt km k4
    go_enter Try.func48, Try.ntmps48
    go_wp2
    go_quiet ((go_at_call 60; exact Calls.quiet_of_same (unhide HMK _)))
    go_wp2
    exact bodyPost_ret (v := .bool false) (by simp [results, Try.results48, go_sem]) rfl ⟨by rw [unhide HF], bdq (bal (brf w) _)⟩
  have qm : decide ((T : Int) < t) = false := decide_eq_false km
  have HR2 : Hid (RR = upB (inAt n xs) L) := hide (by rw [unhide HR, decide_eq_true (p := xs.length ≤ 4) (by omega), decide_eq_true (p := 0 ≤ t) (by omega), decide_eq_true (p := t ≤ (T : Int)) (by omega)]; unfold insB; rw [hL]; rfl)
  have HK4 : Hid (L ≤ 4) := hide (by omega)
  rw [hL] at HCO
  rw [hL]
  clear hL HR hT HTR kt km k4
  go_enter Try.func48, Try.ntmps48
  go_wp2
  go_quiet ((go_at_call 60; exact Calls.quiet_of_same (unhide HMK _)))
  go_wp2
  obtain ⟨W, hW⟩ : ∃ W, W = (w.alloc (.cells #[.slice a L c, .int .i64 t] 79)).drewN nq := ⟨_, rfl⟩
  rw [← hW]
  have HB : Hid (Below w.heap.size w W) := hide (by rw [hW]; exact bdq (bal (brf w) _))
  have m0 : W.cell? ⟨w.heap.size, 0, none⟩ = some (.slice a L c) := by rw [hW]; exact (cell_later (bdq (brf (w.alloc _)) : Below (w.alloc (.cells #[.slice a L c, .int .i64 t] 79)).heap.size _ _) (by rw [World.cell?_alloc_new]; rfl))
  clear hW q4 qt qm
  go_loop [28] (fun i => ∃ k : Nat, k ≤ L ∧ i = .int .i64 k ∧ upB (inAt n xs) k = true) (fun i => L - (intOf i).toNat)
  case atStart => exact ⟨0, Nat.zero_le _, rfl, rfl⟩
  case round =>
    obtain ⟨k, hk, rfl, hall⟩ := hrel
    have HA := hide hall
    clear hall
    by_cases hlt : k < L
    · have hkx : k < xs.length := by have := unhide HLL; omega
      have hL4 := unhide HK4
      have hx : xs[k]? = some xs[k] := List.getElem?_eq_getElem hkx
      generalize xs[k] = x at hx
      have HAT := hide (inAt_at (n := n) hx)
      have HF : Hid (inAt n xs k = false → RR = false) := hide (fun h => by rw [unhide HR2]; exact upB_false hlt h)
      have HST := hide (upB_succ (inAt n xs) k)
      obtain ⟨b, o, rfl, k0, hcc⟩ : ∃ b o, a = some ⟨b, o, none⟩ ∧ W.cell? ⟨b, o + k, none⟩ = some (.int .i64 x) ∧ xs.length ≤ c := by
        rcases (unhide HOP).open with ⟨e, _⟩ | ⟨b, o, c', hv, hcc, _, _, hcs⟩
        · rw [e] at hx; simp at hx
        · injection hv with e1 e2 e3
          obtain ⟨u, hul, hat, hus⟩ := hcs k x hx
          subst hus
          refine ⟨b, o, e1, ?_, by omega⟩
          have := cell_later (unhide HB) (hat.get (j := 0) rfl)
          simpa using this
      have HCX := hide (unhide HCO k x W (unhide HB) (by have := unhide HLL; omega) b o c rfl)
      have i1 : (0 : Int) ≤ (k : Int) := by omega
      have i2 : (k : Int) < (L : Int) := by omega
      have i3 : (k : Int) ≤ (c : Int) := by have := unhide HLL; omega
      clear hx HOP HCO hkx hcc
      generalize inAt n xs k = IA at *
      generalize hp1 : plB x n = p1 at *
      have HP1 : Hid ((decide (0 ≤ x) && decide (x < (n : Int))) = p1) := hide hp1
      clear hp1
      generalize hasB (xs.take k) x = p2 at *
      cases p1
      · go_wp2_with fail
        refine (iPlace x n _).mono ?_
        rintro e W1 ⟨rfl, h⟩
        have h' := h.symm
        subst h'
        rw [unhide HP1]
        go_wp2_with fail
        exact bodyPost_ret (v := .bool false) (by simp [results, Try.results48, go_sem]) rfl ⟨by rw [unhide HF (by rw [unhide HAT]; rfl)], unhide HB⟩
      · cases p2
        · go_wp2_with fail
          refine (iPlace x n _).mono ?_
          rintro e W1 ⟨rfl, h⟩
          have h' := h.symm
          subst h'
          rw [unhide HP1]
          go_wp2_with fail
          refine (unhide HCX).mono ?_
          rintro e W1 ⟨rfl, h⟩
          have h' := h.symm
          subst h'
          go_wp2_with fail
          go_round
          case rel => exact ⟨k + 1, by omega, by go_num, by rw [unhide HST, unhide HA, unhide HAT]; rfl⟩
          case measure => simp [intOf]; omega
        · go_wp2_with fail
          refine (iPlace x n _).mono ?_
          rintro e W1 ⟨rfl, h⟩
          have h' := h.symm
          subst h'
          rw [unhide HP1]
          go_wp2_with fail
          refine (unhide HCX).mono ?_
          rintro e W1 ⟨rfl, h⟩
          have h' := h.symm
          subst h'
          go_wp2_with fail
          exact bodyPost_ret (v := .bool false) (by simp [results, Try.results48, go_sem]) rfl ⟨by rw [unhide HF (by rw [unhide HAT]; rfl)], unhide HB⟩
    · obtain rfl : k = L := by omega
      clear HOP HCO
      go_wp2
      exact bodyPost_ret (v := .bool true) (by simp [results, Try.results48, go_sem]) rfl ⟨by rw [unhide HR2, unhide HA], unhide HB⟩
end Go.Proofs.Ytdmmbhemmbgcpad
