/- The program's levels: all of them. -/
import Derived.Test.YtpkgcccbhfdaiabL1
namespace Go.Proofs.Ytpkgcccbhfdaiab
open Go Go.RowKit Gs
set_option linter.unusedVariables false
set_option linter.unusedSimpArgs false
set_option maxRecDepth 100000
theorem zeros_cells (n : Nat) : (madeCells #[Value.int .i64 0] n).toList = (zerosV n).map (fun x => Value.int .i64 x) := by
  unfold zerosV
  rw [List.map_replicate]
  refine List.ext_getElem? fun i => ?_
  rw [Array.getElem?_toList, List.getElem?_replicate]
  by_cases h : i < n
  · simp [madeCells, h, Nat.mod_one]
  · simp [madeCells, h]
theorem make_ints (T : TypeId) (hT : Try.prog.underlying T = some (.slice 3)) (n : Nat) (hn : n ≤ 4194304) : ∃ M : Array Value, M.toList = (zerosV n).map (fun x => Value.int .i64 x) ∧ ∀ W : World, (Instr.makeSlice T (.int .i64 (n : Int)) (.int .i64 (n : Int))).run Try.prog W = .ok (.slice (some ⟨W.heap.size, 0, none⟩) n n) (W.alloc (.cells M 3)) := by
  obtain ⟨i0, hi, hz0, hz1, hz2⟩ := info_parts info3
  refine ⟨madeCells #[.int .i64 0] n, zeros_cells n, fun W => ?_⟩
  have hr := run_make (P := Try.prog) W T 3 i0 _ hT hi hz0 .i64 .i64 n n (by omega) (Int.le_refl _) (by rw [hz2]; omega) (by omega)
  rw [hr, hz1]
  simp
  rfl
theorem OI_made {W : World} {B n : Nat} {M : Array Value} (hM : M.toList = (zerosV n).map (fun x => Value.int .i64 x)) (hn : n ≤ 4194304) (h : B ≤ W.heap.size) : OI B (W.alloc (.cells M 3)) (.slice (some ⟨W.heap.size, 0, none⟩) n n) (zerosV n) := by
  have hz : (zerosV n).length = n := by unfold zerosV; simp
  have hs : M.size = n := by rw [← Array.length_toList, hM, List.length_map, hz]
  unfold OI
  rw [hz]
  refine ⟨by rw [List.length_map, hz]; omega, .inr ⟨W.heap.size, n, M, rfl, h, heap_alloc_new W _, Nat.le_refl _, by unfold maxLen; omega, by omega, ?_⟩⟩
  rw [List.take_of_length_le (by rw [Array.length_toList]; omega), hM]
set_option maxHeartbeats 16000000 in
theorem iLevels (s0 s1 s2 s3 s4 s5 : Option Addr) (l0 l1 l2 l3 l4 l5 c0 c1 c2 c3 c4 c5 : Nat) (xs : List AndG) (w : World) (hl0 : l0 ≤ 1048576) (hl2 : l2 ≤ 1048576) (hl3 : xs.length ≤ 1048576) (h3 : RS 2 RAndG w 0 xs (.slice s3 l3 c3)) (hao : AO (1 + l0 + l2) xs) :
    Calls Try.prog 20 #[.agg #[.slice s0 l0 c0, .slice s1 l1 c1, .slice s2 l2 c2, .slice s3 l3 c3, .slice s4 l4 c4, .slice s5 l5 c5]] w fun e w' => (∃ v, e = .returned v ∧ OI w.heap.size w' v (levsV (zerosV (1 + l0 + l2)) xs)) ∧ Below w.heap.size w w' := by
  obtain ⟨W, hW⟩ : ∃ W, W = w.alloc (.cells #[.slice s0 l0 c0, .slice s1 l1 c1, .slice s2 l2 c2, .slice s3 l3 c3, .slice s4 l4 c4, .slice s5 l5 c5] 34) := ⟨_, rfl⟩
  have HW : Hid (Below w.heap.size w W) := hide (by rw [hW]; exact bal (brf w) _)
  have HC3 : Hid (∀ V, Below W.heap.size W V → V.cell? ⟨w.heap.size, 3, none⟩ = some (.slice s3 l3 c3)) := hide (fun V hb => cell_later hb (by rw [hW, World.cell?_alloc_new]; rfl))
  obtain ⟨FA, hFA⟩ : ∃ FA : Nat, FA = 1 + l0 + l2 := ⟨_, rfl⟩
  have HFI : Hid (∀ V : World, Calls Try.prog 40 #[.agg #[.slice s0 l0 c0, .slice s1 l1 c1, .slice s2 l2 c2, .slice s3 l3 c3, .slice s4 l4 c4, .slice s5 l5 c5]] V fun e w' => e = .returned (.int .i64 (FA : Int)) ∧ Below V.heap.size V w') := hide (fun V => by
    rw [hFA]
    exact iFirst s0 s2 l0 l2 c0 c2 _ _ _ _ V hl0 hl2)
  have hFb : FA ≤ 2097153 := by omega
  rw [← hFA] at hao ⊢
  have HAO := hide hao
  obtain ⟨hlen, HCS⟩ : l3 = xs.length ∧ Hid (∀ (i : Nat) x, xs[i]? = some x → ∃ b o, s3 = some ⟨b, o, none⟩ ∧ w.cell? ⟨b, o + i * 2, none⟩ = some (.int .i64 x.a) ∧ w.cell? ⟨b, o + i * 2 + 1, none⟩ = some (.int .i64 x.b)) := by
    refine ⟨?_, hide ?_⟩
    · obtain ⟨a, c, hv⟩ := h3.slice
      injection hv
    · intro i x hx
      rcases h3.open with ⟨rfl, _⟩ | ⟨b, o, c', hv, _, _, _, he⟩
      · simp at hx
      · injection hv with e1 e2 e3
        obtain ⟨u, hu, hat, hux⟩ := he i x hx
        subst hux
        exact ⟨b, o, e1, by simpa using hat.get (j := 0) rfl, by simpa using hat.get (j := 1) rfl⟩
  subst hlen
  obtain ⟨M, hM, hmk⟩ := make_ints 53 Try.underlying53 FA (by omega)
  have HM := hide hM
  have HW' := hide hW
  have HBD : Hid (∀ k, LBd (0 + ((xs.take k).length : Int)) (levsV (zerosV FA) (xs.take k))) := hide (fun k => LBd.levs _ _ 0 (LBd.zeros FA) (Int.le_refl _))
  obtain ⟨i0, hi, hz0, hz1, hz2⟩ := info_parts info3
  clear h3 hao hFA hl0 hl2 hM hW
  go_enter Try.func20, Try.ntmps20
  go_wp2_with fail
  rw [← unhide HW']
  refine (unhide HFI _).mono ?_
  rintro e W0 ⟨rfl, hb0⟩
  have HB0 := hide hb0
  have q3 := unhide HC3 (W0.alloc (.cells M 3)) (bal hb0 _)
  have HO0 : Hid (OI W.heap.size (W0.alloc (.cells M 3)) (.slice (some ⟨W0.heap.size, 0, none⟩) FA FA) (zerosV FA)) := hide (OI_made (unhide HM) (by omega) hb0.size)
  clear hb0
  go_wp2_with fail
  clear q3
  go_loopw [3, 12] (fun v i wr => ∃ k : Nat, k ≤ xs.length ∧ i = .int .i64 k ∧ OI W.heap.size wr v (levsV (zerosV FA) (xs.take k)) ∧ Below W.heap.size W wr) (fun _ i wr => xs.length - (intOf i).toNat)
  case atStart => exact ⟨0, Nat.zero_le _, rfl, unhide HO0, bal (unhide HB0) _⟩
  case round =>
    obtain ⟨k, hk, rfl, hot, hb⟩ := hrel
    by_cases hlt : k < xs.length
    · have hx : xs[k]? = some xs[k] := List.getElem?_eq_getElem hlt
      generalize xs[k] = x at hx
      obtain ⟨bb, oo, rfl, hc0, hc1⟩ := unhide HCS k x hx
      obtain ⟨ha1, ha2, hb1, hb2⟩ := unhide HAO k x hx
      have hbw := btr (unhide HW) hb
      have k0 := cell_later hbw hc0
      have k1 := cell_later hbw hc1
      have hal : (levsV (zerosV FA) (xs.take k)).length = FA + k := by rw [levsV_len, List.length_take]; unfold zerosV; simp; omega
      have hbd := unhide HBD k
      have htk : (0 : Int) + ((xs.take k).length : Int) = k := by rw [List.length_take]; omega
      rw [htk] at hbd
      have HST := hide (levsV_step (zerosV FA) hx)
      have HAB : Hid (∀ V : World, Below wr.heap.size wr V → Calls Try.prog 41 #[u3, .int .i64 x.a, .int .i64 x.b] V fun e w' => e = .returned (.int .i64 (abv (levsV (zerosV FA) (xs.take k)) x)) ∧ w' = V) := hide (fun V hV => iAbove _ _ x V ((hot.later hV).read (by unfold maxLen; omega)) ha1 (by rw [hal]; exact ha2) hb1 (by rw [hal]; exact hb2) (by omega) hbd (by omega) (by omega))
      have HLEN := hide hal
      have HO := hide hot
      have HB := hide hb
      clear hot hb hbw hc0 hc1 HCS hx hal hbd htk ha1 ha2 hb1 hb2 HAO
      generalize abv (levsV (zerosV FA) (xs.take k)) x = ab at *
      generalize x.a = za at *
      generalize x.b = zb at *
      generalize levsV (zerosV FA) (xs.take k) = acc at *
      have HSZ := hide (unhide HB).size
      go_wp2_with (first
        | (go_at_call 41; refine (unhide HAB _ (bal (brf wr) _)).mono ?_; rintro e W1 ⟨rfl, rfl⟩)
        | (at_builtin; refine wpList_append_own _ rfl _ _ 53 rfl W.heap.size 3 i0 (.int .i64 0) 1 8 Try.underlying53 hi hz0 hz1 hz2 rfl (by decide) _ _ _ rfl (((unhide HO).alloc _).alloc _) ⟨wr.heap.size + 1, 0, none⟩ 1 1 [.int .i64 ab] rfl rfl (newI _ _ _ (by simp)) (oneI _) (by have := unhide HLEN; unfold maxLen; omega) (by have := unhide HLEN; omega) (by have := unhide HSZ; simp; omega) ?_; intro v' w2 hown' hgrow _)
        | go_in)
      have R1 : OI W.heap.size w2 v' (levsV (zerosV FA) (xs.take (k + 1))) := by
        rw [unhide HST]; exact OI.step hown'
      have R2 := below_grown (bal (bal (unhide HB) _) (.cells #[.int .i64 ab] 3)) hgrow (by have := unhide HSZ; simp; omega) (unhide HO).row
      go_roundw
      case rel => exact ⟨k + 1, by omega, by go_num, R1, R2⟩
      case measure => simp [intOf]; omega
    · obtain rfl : k = xs.length := by omega
      rw [List.take_of_length_le (Nat.le_refl _)] at hot
      have HO := hide (hot.low (B' := w.heap.size) (unhide HW).size)
      have HB := hide (btr (unhide HW) hb)
      clear hot hb HCS
      go_wp2_with fail
      exact bodyPost_ret (v := u3) (by simp [results, Try.results20, go_sem]) rfl ⟨⟨_, rfl, unhide HO⟩, unhide HB⟩
end Go.Proofs.Ytpkgcccbhfdaiab
