/- What the program's isLetter, isDigit and nameSize answer. -/
import Derived.Test.YtlcpmbdckmdabaaGreatDoorTS1
import Derived.Lib.OthersKept
import Derived.Laws.RangeAny
namespace Go.Proofs.YtlcpmbdckmdabaaGreatDoor
open Go.RowKit
set_option maxRecDepth 100000
set_option linter.unusedVariables false
def letR (n : Int) : Bool := (decide ((97 : Int) ≤ n) && decide (n ≤ 122)) || (decide ((65 : Int) ≤ n) && decide (n ≤ 90)) || (n == 95)
def digR (n : Int) : Bool := decide ((48 : Int) ≤ n) && decide (n ≤ 57)
theorem letR_u8 (c : UInt8) : letR (c.toNat : Int) = Nb.letB c := by
  unfold letR Nb.letB; rw [u8_le, u8_le, u8_le, u8_le, u8b]; rfl
theorem digR_u8 (c : UInt8) : digR (c.toNat : Int) = Nb.digB c := by
  unfold digR Nb.digB; rw [u8_le, u8_le]; rfl
theorem letR_high {n : Int} (h : 128 ≤ n) : letR n = false := by
  unfold letR
  rw [decide_eq_false (p := n ≤ 122) (by omega), decide_eq_false (p := n ≤ 90) (by omega), Bool.and_false, Bool.and_false, Bool.or_false, Bool.false_or]
  exact beq_eq_false_iff_ne.2 (by omega)
theorem digR_high {n : Int} (h : 128 ≤ n) : digR n = false := by
  unfold digR
  rw [decide_eq_false (p := n ≤ 57) (by omega), Bool.and_false]
theorem iLetter (n : Int) (w : World) : Calls Tryz.prog 68 #[.int .i32 n] w fun e w' => e = .returned (.bool (letR n)) ∧ w' = w := by
  unfold letR
  go_enter Tryz.func68, Tryz.ntmps68
  go_wp2
  all_goals (go_ret; exact ⟨by first | (simp_all; done) | (simp_all; omega; done) | (simp_all; rw [Bool.eq_iff_iff]; simp only [Bool.or_eq_true, Bool.and_eq_true, decide_eq_true_eq, beq_iff_eq]; omega), rfl⟩)
theorem iDigit (n : Int) (w : World) : Calls Tryz.prog 69 #[.int .i32 n] w fun e w' => e = .returned (.bool (digR n)) ∧ w' = w := by
  unfold digR
  go_enter Tryz.func69, Tryz.ntmps69
  go_wp2
  all_goals (go_ret; exact ⟨by first | (simp_all; done) | (simp_all; omega), rfl⟩)
/-- The rune at a place tells of the byte there whether it is a letter or a digit; such a rune is one byte long. -/
theorem dec_at (s : ByteArray) (p : Nat) (h : p < s.size) : letR ((Utf8.decode s p).1 : Nat) = Nb.letB s[p] ∧ digR ((Utf8.decode s p).1 : Nat) = Nb.digB s[p] ∧ (Nb.nmB s[p] = true → (Utf8.decode s p).2 = 1) := by
  by_cases ha : s[p].toNat < 128
  · rw [decode_ascii s p h ha]
    exact ⟨letR_u8 _, digR_u8 _, fun _ => rfl⟩
  · have hh := decode_high s p h (by omega)
    have l0 : Nb.letB s[p] = false := by rw [← letR_u8]; exact letR_high (by omega)
    have d0 : Nb.digB s[p] = false := by rw [← digR_u8]; exact digR_high (by omega)
    refine ⟨by rw [l0]; exact letR_high (by omega), by rw [d0]; exact digR_high (by omega), fun hn => ?_⟩
    unfold Nb.nmB at hn
    rw [l0, d0] at hn
    cases hn
set_option maxRecDepth 100000 in
set_option maxHeartbeats 800000 in
theorem iName (s : ByteArray) (N : Nat) (w : World) (hs : s.size ≤ 1000000) (hN : Nb.nameL (L s) = N) :
    Calls Tryz.prog 55 #[.string s] w fun e w' => e = .returned (.int .i64 (N : Nat)) ∧ Below w.heap.size w w' := by
  have hl : (L s).length = s.size := L_len s
  have HN := hide hN
  clear hN
  go_enter Tryz.func55, Tryz.ntmps55
  go_wp2
  go_loopw [] (fun wr => ∃ (pos : Nat), wr.heap[w.heap.size]? = some (.stringIter s pos) ∧ Below w.heap.size w wr ∧ pos ≤ s.size ∧ (pos = 0 ∨ (0 < pos ∧ N = Nb.runE Nb.nmB (L s) pos))) (fun wr => s.size - wr.iterPos w.heap.size)
  case atStart =>
    exact ⟨0, World.iter_heap w s 0, (Below.refl _ w).alloc (Nat.le_refl _) _, Nat.zero_le _, .inl rfl⟩
  case round =>
    obtain ⟨pos, hit, hbw, hps, hrun⟩ := hrel
    have hsz : w.heap.size < wr.heap.size := (Array.getElem?_eq_some_iff.1 hit).1
    by_cases hp : pos < s.size
    · obtain ⟨d1, d2, d3⟩ := dec_at s pos hp
      have hnx : ∀ ty, (Instr.next (.pointer (some ⟨w.heap.size, 0, none⟩)) true ty).run Tryz.prog wr = _ := fun ty => Lib.run_next_any_at wr w.heap.size s pos ty hit hp
      generalize hdec : Utf8.decode s pos = D at *
      obtain ⟨r, k⟩ := D
      simp only at d1 d2 d3 hnx
      have hit2 := fun q => Lib.iterAt_heap wr w.heap.size s pos q hit
      have hbw2 := fun q => Lib.below_iterAt hbw (k := w.heap.size) (Nat.le_refl _) s q
      have LT := hide (fun v => iLetter (r : Int) v)
      have DG := hide (fun v => iDigit (r : Int) v)
      have HIT := hide hit
      have HIT2 := hide hit2
      have HBW2 := hide hbw2
      have HRUN := hide hrun
      clear hit hit2 hbw hbw2 hdec hrun
      by_cases h1 : Nb.letB s[pos] = true
      · have hnm : Nb.nmB s[pos] = true := by unfold Nb.nmB; rw [h1]; rfl
        obtain rfl : k = 1 := d3 hnm
        rw [d1, h1] at LT
        have HX : Hid (N = Nb.runE Nb.nmB (L s) (pos + 1)) := hide (by
          rcases unhide HRUN with rfl | ⟨_, e⟩
          · have := Nb.nameL_run (l := L s) (a := 0) (by omega) h1
            rw [List.drop_zero] at this
            rw [← unhide HN]; omega
          · rw [e]; exact Nb.runE_step (by omega) hnm)
        clear DG d1 d2 d3 h1 hnm HRUN
        go_wp2_with (go_at_call 68; refine (unhide LT _).mono ?_; rintro e v1 ⟨rfl, rfl⟩)
        go_roundw
        case rel => exact ⟨pos + 1, unhide HIT2 _, unhide HBW2 _, by omega, .inr ⟨by omega, unhide HX⟩⟩
        case measure =>
          simp only [World.iterPos, unhide HIT2 _, unhide HIT]
          omega
      · have h1' : Nb.letB s[pos] = false := by simpa using h1
        rw [d1, h1'] at LT
        by_cases h0 : pos = 0
        · subst h0
          have HX : Hid (N = 0) := hide (by
            have := Nb.nameL_none (l := L s) (a := 0) (by omega) h1'
            rw [List.drop_zero] at this
            rw [← unhide HN, this])
          clear DG d1 d2 d3 h1 h1' HRUN
          go_wp2_with (go_at_call 68; refine (unhide LT _).mono ?_; rintro e v1 ⟨rfl, rfl⟩)
          exact bodyPost_ret (v := .int .i64 (N : Nat)) (by rw [unhide HX]; simp [results, Tryz.results55, go_sem]) rfl ⟨rfl, unhide HBW2 _⟩
        · have HR : Hid (N = Nb.runE Nb.nmB (L s) pos) := hide (by
            rcases unhide HRUN with e | ⟨_, e⟩
            · exact absurd e h0
            · exact e)
          have q0 : ((pos : Int) == 0) = false := beq_eq_false_iff_ne.2 (by omega)
          clear HRUN h0
          by_cases h2 : Nb.digB s[pos] = true
          · have hnm : Nb.nmB s[pos] = true := by unfold Nb.nmB; rw [h2, h1']; rfl
            obtain rfl : k = 1 := d3 hnm
            rw [d2, h2] at DG
            have HX : Hid (N = Nb.runE Nb.nmB (L s) (pos + 1)) := hide ((unhide HR).trans (Nb.runE_step (by omega) hnm))
            clear d1 d2 d3 h1 h1' h2 hnm HR
            go_wp2_with (first | (go_at_call 68; refine (unhide LT _).mono ?_; rintro e v1 ⟨rfl, rfl⟩) | (go_at_call 69; refine (unhide DG _).mono ?_; rintro e v1 ⟨rfl, rfl⟩))
            go_roundw
            case rel => exact ⟨pos + 1, unhide HIT2 _, unhide HBW2 _, by omega, .inr ⟨by omega, unhide HX⟩⟩
            case measure =>
              simp only [World.iterPos, unhide HIT2 _, unhide HIT]
              omega
          · have h2' : Nb.digB s[pos] = false := by simpa using h2
            have hnm : Nb.nmB s[pos] = false := by unfold Nb.nmB; rw [h2', h1']; rfl
            rw [d2, h2'] at DG
            obtain rfl : N = pos := (unhide HR).trans (Nb.runE_stop (by omega) hnm)
            clear d1 d2 d3 h1 h1' h2 h2' hnm HR
            go_wp2_with (first | (go_at_call 68; refine (unhide LT _).mono ?_; rintro e v1 ⟨rfl, rfl⟩) | (go_at_call 69; refine (unhide DG _).mono ?_; rintro e v1 ⟨rfl, rfl⟩))
            exact bodyPost_ret (v := .int .i64 (N : Nat)) (by simp [results, Tryz.results55, go_sem]) rfl ⟨rfl, unhide HBW2 _⟩
    · have hnx : ∀ ty, (Instr.next (.pointer (some ⟨w.heap.size, 0, none⟩)) true ty).run Tryz.prog wr = _ := fun ty => Lib.run_next_end_at wr w.heap.size s pos ty hit hp
      have hNs : N = s.size := by
        rcases hrun with e | ⟨_, e⟩
        · have h0 : L s = [] := List.eq_nil_of_length_eq_zero (by omega)
          rw [← unhide HN, h0]
          show 0 = s.size
          omega
        · rw [e, Nb.runE_end (by omega)]; omega
      have HBW := hide hbw
      clear hrun hbw HN
      subst hNs
      go_wp2
      exact bodyPost_ret (v := .int .i64 (s.size : Nat)) (by simp [results, Tryz.results55, go_sem]) rfl ⟨rfl, unhide HBW⟩
end Go.Proofs.YtlcpmbdckmdabaaGreatDoor
