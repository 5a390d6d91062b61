/- math/bits.Mul by one. -/
import Derived.Test.YtdmmbhemmbgcpabGreatGPR2
import Derived.BigQuiet
import Derived.Test.YtdmmbhemmbgcpabGreatGMX
import Derived.Test.YtdmmbhemmbgcpabGreatGPC
import Derived.Test.YtdmmbhemmbgcpabGreatGFB
import Derived.Test.YtdmmbhemmbgcpabGreatGRW5
import Derived.Laws.Tables
import Derived.Laws.CopyOwn
import Derived.Deep.WholeRow
namespace Go.Proofs.YtdmmbhemmbgcpabGreat
open Go Go.RowKit Gs
set_option linter.unusedVariables false
set_option linter.unusedSimpArgs false
set_option maxRecDepth 100000
theorem and_low (n : Nat) (hn : n ≤ 1048576) : bits .and .u64 (n : Int) 4294967295 = (n : Int) := by
  have hU : U (BitVec.ofNat 64 n) = (n : Int) := by unfold U; simp; omega
  have h := U_and (BitVec.ofNat 64 n) 4294967295#64
  rw [hU, show U 4294967295#64 = 4294967295 from rfl] at h
  rw [h, ← hU]
  congr 1
  apply BitVec.eq_of_toNat_eq
  rw [BitVec.toNat_and, BitVec.toNat_ofNat, Nat.mod_eq_of_lt (by omega), show (4294967295#64).toNat = 2 ^ 32 - 1 from rfl, Nat.and_two_pow_sub_one_eq_mod, Nat.mod_eq_of_lt (by omega)]
set_option maxHeartbeats 1600000 in
theorem iMul64 (n : Nat) (hn : n ≤ 1048576) (w : World) : Calls Tryz.prog 92 #[.int .u64 1, .int .u64 (n : Int)] w fun e w' => e = .returned (.tuple #[.int .u64 0, .int .u64 (n : Int)]) ∧ w' = w := by
  have h1 := and_low n hn
  have a1 : bits .and .u64 1 4294967295 = 1 := and_low 1 (by decide)
  have a0 : bits .and .u64 0 4294967295 = 0 := and_low 0 (by decide)
  have e1 : (n : Int) / 4294967296 = 0 := by omega
  have w1 : IntKind.u64.wrap (n : Int) = (n : Int) := by rw [IntKind.wrap_u64]; omega
  have w0 : IntKind.u64.wrap 0 = 0 := by rw [IntKind.wrap_u64]; rfl
  go_enter Tryz.func92, Tryz.ntmps92
  go_wp2
  exact bodyPost_ret (v := .tuple #[.int .u64 0, .int .u64 (n : Int)]) (by simp [results, Tryz.results92, go_sem, a1, a0, e1, w1, w0]) rfl ⟨rfl, rfl⟩
set_option maxHeartbeats 1600000 in
theorem iMul (n : Nat) (hn : n ≤ 1048576) (w : World) : Calls Tryz.prog 62 #[.int .u64 1, .int .u64 (n : Int)] w fun e w' => e = .returned (.tuple #[.int .u64 0, .int .u64 (n : Int)]) ∧ w' = w := by
  go_enter Tryz.func62, Tryz.ntmps62
  go_wp2_with fail
  refine (iMul64 n hn w).mono ?_
  rintro e W1 ⟨rfl, h⟩
  subst h
  go_wp2_with fail
  exact bodyPost_ret (v := .tuple #[.int .u64 0, .int .u64 (n : Int)]) (by simp [results, Tryz.results62, go_sem]) rfl ⟨rfl, rfl⟩
end Go.Proofs.YtdmmbhemmbgcpabGreat
namespace Go.Proofs.YtdmmbhemmbgcpabGreat
open Go Go.RowKit Gs
set_option linter.unusedVariables false
set_option linter.unusedSimpArgs false
set_option maxRecDepth 100000
theorem OI.low {B B' : Nat} {v : Value} {xs : List Int} {W : World} (h : OI B W v xs) (hB : B' ≤ B) : OI B' W v xs := by
  obtain ⟨h1, h2 | ⟨g, cap, cur, hv, hg, rest⟩⟩ := h
  · exact ⟨h1, .inl h2⟩
  · exact ⟨h1, .inr ⟨g, cap, cur, hv, Nat.le_trans hB hg, rest⟩⟩
theorem OS.low {B B' : Nat} {v : Value} {xs : List ByteArray} {W : World} (h : OS B W v xs) (hB : B' ≤ B) : OS B' W v xs := by
  obtain ⟨⟨h1, h2 | ⟨g, cap, cur, hv, hg, rest⟩⟩, h3⟩ := h
  · exact ⟨⟨h1, .inl h2⟩, h3⟩
  · exact ⟨⟨h1, .inr ⟨g, cap, cur, hv, Nat.le_trans hB hg, rest⟩⟩, h3⟩
end Go.Proofs.YtdmmbhemmbgcpabGreat
namespace Go.Proofs.YtdmmbhemmbgcpabGreat
open Go Go.RowKit Gs
set_option linter.unusedVariables false
set_option linter.unusedSimpArgs false
set_option maxRecDepth 100000
section
variable {P : Program} {ops : Array Oper} {a0 : Act} {F : Nat → Value → Prop} {w0 : World} {n : Nat} {E : World → Prop}
theorem se_flt {k : Nat} {o : Oper} (hne : k ≠ n) (hg : o.guard = none) (h : ∀ l a w, PA ops (GF F) (JE w0 n E) a0 l a w → l.getD k true = false → (∀ e ∈ o.after, Region.binds .any e = true → l.getD e.on false = true) → ∃ x, (execOp a.eval o).run P w = .ok (.value x) w ∧ F k x) : Stp P ops (GF F) (JE w0 n E) a0 k o := by
  intro l a w hp hu ha
  obtain ⟨x, hr, hf⟩ := h l a w hp hu ha
  unfold opW
  rw [if_pos (wanted_none hg)]
  refine .inl ⟨x, w, hr, x, rfl, ⟨fun e => ?_, fun e => ?_⟩, hf, fun _ _ _ _ h => h⟩
  · rw [set_oth hu (Ne.symm hne)] at e; exact hp.j.1 e
  · rw [set_oth hu (Ne.symm hne)] at e; exact hp.j.2 e
theorem se_mid {o : Oper} (hg : o.guard = none) (h : ∀ l a w, PA ops (GF F) (JE w0 n E) a0 l a w → Below w0.heap.size w0 w → (∀ e ∈ o.after, Region.binds .any e = true → l.getD e.on false = true) → ∃ x w', (execOp a.eval o).run P w = .ok (.value x) w' ∧ E w' ∧ F n x) : Stp P ops (GF F) (JE w0 n E) a0 n o := by
  intro l a w hp hu ha
  have hb := hp.j.1 (notDoneB hu)
  obtain ⟨x, w', hr, hE, hf⟩ := h l a w hp hb ha
  unfold opW
  rw [if_pos (wanted_none hg)]
  refine .inl ⟨x, w', hr, x, rfl, ⟨fun e => ?_, fun _ => hE⟩, hf, fun _ _ _ _ h => h⟩
  rw [set_own hu] at e; cases e
end
/-- So many ones, and 0 behind them. -/
def onesL (k n : Nat) : List Value := List.replicate k (.int .i64 1) ++ List.replicate (n - k) (.int .i64 0)
theorem rep_copy (k n c : Nat) (cur : Array Value) (hc : c = Nat.min k (n - k)) (hk : 1 ≤ k) (hlt : k < n) (hcl : cur.toList = onesL k n) :
    c = Nat.min k (n - k) ∧ k + c ≤ cur.size ∧ (cur.toList.take k ++ List.replicate c (Value.int .i64 1) ++ cur.toList.drop (k + (List.replicate c (Value.int .i64 1)).length)).toArray = (onesL (k + c) n).toArray := by
  have hs : cur.size = n := by rw [← Array.length_toList, hcl]; simp [onesL]; omega
  have hcn : c ≤ n - k := by rw [hc]; exact Nat.min_le_right _ _
  refine ⟨hc, by omega, ?_⟩
  congr 1
  rw [hcl, List.length_replicate]
  unfold onesL
  rw [List.take_left' (by simp), List.drop_append, List.drop_replicate, List.drop_replicate, List.length_replicate, show k - (k + c) = 0 by omega, show n - k - (k + c - k) = n - (k + c) by omega]
  rw [List.replicate_zero, List.nil_append, List.replicate_append_replicate]
theorem rep_src (V : World) (g : Nat) (cur : Array Value) (c k n : Nat) (hg : V.heap[g]? = some (.cells cur 3 (0, 0))) (hcl : cur.toList = onesL k n) (hck : c ≤ k) : ∀ j v, (List.replicate c (Value.int .i64 1))[j]? = some v → V.cell? ((⟨g, 0, none⟩ : Addr).add j) = some v := by
  intro j v hj
  rw [List.getElem?_replicate] at hj
  split at hj
  · rename_i hlt
    injection hj with hj
    subst hj
    rw [Addr.add_lit]
    have e : cur[j]? = some (.int .i64 1) := by
      rw [← Array.getElem?_toList, hcl]
      unfold onesL
      rw [List.getElem?_append_left (by rw [List.length_replicate]; omega), List.getElem?_replicate, if_pos (by omega)]
    simp [World.cell?, hg, e]
  · cases hj
theorem make_int67 (n : Nat) (hn : n ≤ 4194304) : ∃ M : Array Value, M.toList = List.replicate n (.int .i64 0) ∧ ∀ W : World, (Instr.makeSlice 64 (.int .i64 (n : Int)) (.int .i64 (n : Int))).run Tryz.prog W = .ok (.slice (some ⟨W.heap.size, 0, none⟩) n n) (W.alloc (.cells M 3)) := by
  obtain ⟨i0, hi, hz0, hz1, hz2⟩ := info_parts info3
  refine ⟨madeCells #[.int .i64 0] n, ?_, fun W => ?_⟩
  · refine List.ext_getElem? fun i => ?_
    rw [Array.getElem?_toList, List.getElem?_replicate]
    by_cases h : i < n
    · simp [madeCells, h, Nat.mod_one]
    · simp [madeCells, h]
  · have hr := run_make (P := Tryz.prog) W 64 3 i0 _ Tryz.underlying64 hi hz0 .i64 .i64 n n (by omega) (Int.le_refl _) (by rw [hz2]; omega) (by omega)
    rw [hr, hz1]
    simp
    rfl
def FR9 (g n k c : Nat) : Nat → Value → Prop
  | 0, v => v = .int .i64 (k : Int)
  | 1, v => v = .slice (some ⟨g, 0, none⟩) n n
  | 2, v => v = .int .i64 (k : Int)
  | 3, v => v = .slice (some ⟨g, k, none⟩) (n - k) (n - k)
  | 4, v => v = .slice (some ⟨g, 0, none⟩) n n
  | 5, v => v = .int .i64 (k : Int)
  | 6, v => v = .slice (some ⟨g, 0, none⟩) k n
  | 7, v => v = .int .i64 (c : Int)
  | 8, v => v = .int .i64 ((k + c : Nat) : Int)
  | 9, v => v = .int .i64 ((k + c : Nat) : Int)
  | _, _ => True
set_option maxHeartbeats 16000000 in
theorem iRepeat (b n : Nat) (w : World) (hn : n ≤ 1048576) (hc : w.cell? ⟨b, 0, none⟩ = some (.int .i64 1)) :
    Calls Tryz.prog 32 #[.slice (some ⟨b, 0, none⟩) 1 1, .int .i64 (n : Int)] w fun e w' => (∃ v, e = .returned v ∧ RS 1 RInt w' w.heap.size (List.replicate n 1) v) ∧ Below w.heap.size w w' := by
  obtain ⟨i0, hi, hz0, hz1, hz2⟩ := info_parts info3
  have HI := hide (And.intro hi hz1)
  obtain ⟨M, hM, hmk⟩ := make_int67 n (by omega)
  have HMU := hide (fun V => iMul n hn V)
  obtain ⟨g, hg⟩ : ∃ g, g = w.heap.size := ⟨_, rfl⟩
  have hbk := World.block_lt_of_cell? _ _ hc
  have hcp := run_copy_row Tryz.prog (w.alloc (.cells M 3)) 64 64 3 3 w.heap.size 0 n n ⟨b, 0, none⟩ 1 1 M 3 ([Value.int .i64 1].take (Nat.min 1 n)) Tryz.underlying64 (by rw [hi]; simp [hz1]) (heap_alloc_new w _) (by rw [List.length_take]; simp) (by
    intro j v hj
    have hj0 : j = 0 := by
      cases j with
      | zero => rfl
      | succ j => rw [List.getElem?_take] at hj; split at hj <;> simp at hj
    subst hj0
    rw [List.getElem?_take] at hj
    split at hj
    · simp at hj; subst hj
      rw [Addr.add_lit]
      exact cell_later (bal (brf w) (.cells M 3)) hc
    · cases hj) (by
    have hs : M.size = n := by rw [← Array.length_toList, hM]; simp
    rw [List.length_take]; simp; omega) (by intro u hu; have := List.mem_of_mem_take hu; simp at this; subst this; rfl)
  have hk0 : ∃ k0, k0 = Nat.min 1 n := ⟨_, rfl⟩
  obtain ⟨k0, hk0⟩ := hk0
  have hfirst : (Builtin.copy_ #[64, 64] 3 #[.slice (some ⟨w.heap.size, 0, none⟩) n n, .slice (some ⟨b, 0, none⟩) 1 1]).run Tryz.prog (w.alloc (.cells M 3)) = .ok (.int .i64 (k0 : Int)) (w.alloc (.cells (onesL k0 n).toArray 3)) := by
    rw [hcp, World.setRow_alloc_new, hM]
    cases n with
    | zero => subst hk0; rfl
    | succ m =>
      obtain rfl : k0 = 1 := by rw [hk0]; simp [Nat.min_def]
      have e : Nat.min 1 (m + 1) = 1 := by simp [Nat.min_def]
      rw [e]
      simp [onesL, goInt, List.drop_replicate]
  have hkn : k0 ≤ n := by rw [hk0]; exact Nat.min_le_right _ _
  have hkz : n = 0 ∨ 1 ≤ k0 := by rw [hk0]; simp only [Nat.min_def]; split <;> omega
  clear hcp hi hz0 hz1 hz2 hM hk0
  go_enter Tryz.func32, Tryz.ntmps32
  go_wp2_with (first
    | (go_at_call 62; refine (unhide HMU _).mono ?_; rintro e W1 ⟨rfl, rfl⟩))
  rename World => w
  clear hfirst
  have HB0 := hide (bal (brf w) (.cells (onesL k0 n).toArray 3))
  have HH0 := hide (heap_alloc_new w (.cells (onesL k0 n).toArray 3))
  rw [← hg] at HH0 ⊢
  have hgw : w.heap.size ≤ g := by omega
  clear hbk hc
  go_loopw [8] (fun i wr => ∃ k : Nat, k ≤ n ∧ i = .int .i64 k ∧ (n = 0 ∨ 1 ≤ k) ∧ (∃ cur, wr.heap[g]? = some (.cells cur 3 (0, 0)) ∧ cur.toList = onesL k n) ∧ Below w.heap.size w wr) (fun i wr => n - (intOf i).toNat)
  case atStart => exact ⟨k0, hkn, rfl, hkz, ⟨_, unhide HH0, rfl⟩, unhide HB0⟩
  case round =>
    obtain ⟨k, hk, rfl, hz, hcu, hb⟩ := hrel
    by_cases hlt : k < n
    · have hk1 : 1 ≤ k := by omega
      have HCU := hide hcu
      have HB := hide hb
      obtain ⟨c, hcn⟩ : ∃ c, c = Nat.min k (n - k) := ⟨_, rfl⟩
      have HCN := hide hcn
      have hc1 : c ≤ n - k := by rw [hcn]; exact Nat.min_le_right _ _
      have hc2 : c ≤ k := by rw [hcn]; exact Nat.min_le_left _ _
      have hc3 : 1 ≤ c := by rw [hcn]; simp only [Nat.min_def]; split <;> omega
      clear hcu hb hcn hz
      go_wp2_with fail
      refine wp_plan (GF (FR9 g n k c)) (JE wr 7 (fun V => ∃ V0, Below wr.heap.size wr V0 ∧ V = V0.setRow g (onesL (k + c) n).toArray)) (by kernel_rfl) 48 (by kernel_rfl) (by kernel_rfl) ?hj ?hs ?hf
      case hj => exact JE.start (bdr (brf wr))
      case hs =>
        refine ⟨?_, ?_, ?_, ?_, ?_, ?_, ?_, ?_, ?_, ?_, trivial⟩
        · exact se_flt (by decide) rfl (fun l a V hp hu ha => ⟨.int .i64 (k : Int), by
            have x8 := (ev_form a 8).trans (old2 hp hu 8 9 (v := .int .i64 (k : Int)) (by kernel_rfl) (by kernel_rfl) (by kernel_rfl))
            go_simp, rfl⟩)
        · exact se_flt (by decide) rfl (fun l a V hp hu ha => ⟨.slice (some ⟨g, 0, none⟩) n n, by
            have x7 := (ev_form a 7).trans (old hp 7 (v := .slice (some ⟨g, 0, none⟩) n n) (by kernel_rfl) (by kernel_rfl))
            go_simp, rfl⟩)
        · exact se_flt (by decide) rfl (fun l a V hp hu ha => ⟨.int .i64 (k : Int), by
            have x8 := (ev_form a 8).trans (old2 hp hu 8 9 (v := .int .i64 (k : Int)) (by kernel_rfl) (by kernel_rfl) (by kernel_rfl))
            go_simp, rfl⟩)
        · exact se_flt (by decide) rfl (fun l a V hp hu ha => ⟨.slice (some ⟨g, k, none⟩) (n - k) (n - k), by
            have x39 := (ev_form a 39).trans (show a.eval (.tmp 39) = .slice (some ⟨g, 0, none⟩) n n from kn hp ha 39 1 (by kernel_rfl) (by kernel_rfl))
            have x40 := (ev_form a 40).trans (show a.eval (.tmp 40) = .int .i64 (k : Int) from kn hp ha 40 2 (by kernel_rfl) (by kernel_rfl))
            have hnk : ¬ n = k := by omega
            go_simp, rfl⟩)
        · exact se_flt (by decide) rfl (fun l a V hp hu ha => ⟨.slice (some ⟨g, 0, none⟩) n n, by
            have x7 := (ev_form a 7).trans (old hp 7 (v := .slice (some ⟨g, 0, none⟩) n n) (by kernel_rfl) (by kernel_rfl))
            go_simp, rfl⟩)
        · exact se_flt (by decide) rfl (fun l a V hp hu ha => ⟨.int .i64 (k : Int), by
            have x8 := (ev_form a 8).trans (old2 hp hu 8 9 (v := .int .i64 (k : Int)) (by kernel_rfl) (by kernel_rfl) (by kernel_rfl))
            go_simp, rfl⟩)
        · exact se_flt (by decide) rfl (fun l a V hp hu ha => ⟨.slice (some ⟨g, 0, none⟩) k n, by
            have x42 := (ev_form a 42).trans (show a.eval (.tmp 42) = .slice (some ⟨g, 0, none⟩) n n from kn hp ha 42 4 (by kernel_rfl) (by kernel_rfl))
            have x43 := (ev_form a 43).trans (show a.eval (.tmp 43) = .int .i64 (k : Int) from kn hp ha 43 5 (by kernel_rfl) (by kernel_rfl))
            go_simp, rfl⟩)
        · refine se_mid rfl (fun l a V hp hB ha => ?_)
          have h41 : a.eval (.tmp 41) = .slice (some ⟨g, k, none⟩) (n - k) (n - k) := kn hp ha 41 3 (by kernel_rfl) (by kernel_rfl)
          have h44 : a.eval (.tmp 44) = .slice (some ⟨g, 0, none⟩) k n := kn hp ha 44 6 (by kernel_rfl) (by kernel_rfl)
          obtain ⟨cur, hcur, hcl⟩ := unhide HCU
          have hcurV : V.heap[g]? = some (.cells cur 3 (0, 0)) := (hB.block g (Array.getElem?_eq_some_iff.1 hcur).1).trans hcur
          obtain ⟨h1, h2, h3⟩ := rep_copy k n c cur (unhide HCN) hk1 hlt hcl
          have hrun := run_copy_row Tryz.prog V 64 64 3 3 g k (n - k) (n - k) ⟨g, 0, none⟩ k n cur 3 (List.replicate c (.int .i64 1)) Tryz.underlying64 (by rw [(unhide HI).1]; simp [(unhide HI).2]) hcurV (by rw [List.length_replicate]; exact h1) (rep_src V g cur c k n hcurV hcl (by omega)) (by rw [List.length_replicate]; exact h2) (by intro u hu; rw [List.eq_of_mem_replicate hu]; rfl)
          refine ⟨_, _, ?_, ⟨V, hB, rfl⟩, (show (goInt (List.replicate c (Value.int .i64 1)).length = .int .i64 (c : Int)) by rw [List.length_replicate]; rfl)⟩
          unfold execOp
          simp only [resolve, invoke, builtin, Sem.run_bind, Sem.run_pure, Result.andThen_ok, List.map_toArray, List.map_cons, List.map_nil, h41, h44]
          rw [hrun]
          rw [unhide (hide h3 : Hid _)]
          rfl
        · exact se_flt (by decide) rfl (fun l a V hp hu ha => ⟨.int .i64 ((k + c : Nat) : Int), by
            have x38 := (ev_form a 38).trans (show a.eval (.tmp 38) = .int .i64 (k : Int) from kn hp ha 38 0 (by kernel_rfl) (by kernel_rfl))
            have x45 := (ev_form a 45).trans (show a.eval (.tmp 45) = .int .i64 (c : Int) from kn hp ha 45 7 (by kernel_rfl) (by kernel_rfl))
            have hw : IntKind.i64.wrap ((k : Int) + (c : Int)) = (k : Int) + (c : Int) := by rw [IntKind.wrap_i64]; omega
            go_simp, rfl⟩)
        · exact se_flt (by decide) rfl (fun l a V hp hu ha => ⟨.int .i64 ((k + c : Nat) : Int), by
            have x46 := (ev_form a 46).trans (show a.eval (.tmp 46) = .int .i64 ((k + c : Nat) : Int) from kn hp ha 46 8 (by kernel_rfl) (by kernel_rfl))
            go_simp, rfl⟩)
      case hf =>
        intro l a V hp hall
        have hv := hp.good 9 _ 8 rfl rfl (hall 9 (by decide))
        obtain ⟨V0, hV0, hVe⟩ := hp.j.2 (hall 7 (by decide))
        obtain ⟨us, rfl, hus⟩ := putAll_of [38, 39, 40, 41, 42, 43, 44, 45, 46, 8] hp.nt hp.df (fun t ht => hp.keep t (dstIn (by kernel_rfl) ht))
        have hv2 : us 8 = .int .i64 ((k + c : Nat) : Int) := by rw [hus 8]; exact hv
        obtain ⟨cur, hcur, hcl⟩ := unhide HCU
        have hcurV : V0.heap[g]? = some (.cells cur 3 (0, 0)) := (hV0.block g (Array.getElem?_eq_some_iff.1 hcur).1).trans hcur
        have HR1 : Hid (∃ cur, V.heap[g]? = some (.cells cur 3 (0, 0)) ∧ cur.toList = onesL (k + c) n) := hide ⟨_, by rw [hVe]; exact setRow_heap V0 g cur _ 3 (0, 0) hcurV, rfl⟩
        have HR2 : Hid (Below w.heap.size w V) := hide (by rw [hVe]; exact below_setRow (btr (unhide HB) hV0) hgw _)
        clear hp hall hv hus hVe hV0 hcur hcurV hcl
        simp only [putAll, List.foldl, Act.put, List.setIfInBounds_toArray, List.set_cons_zero, List.set_cons_succ, hv2]
        clear hv2
        go_wp2_with fail
        go_roundw
        case rel => exact ⟨k + c, by omega, rfl, .inr (by omega), unhide HR1, unhide HR2⟩
        case measure => simp [intOf]; omega
    · obtain rfl : n = k := by omega
      obtain ⟨cur, hcur, hcl⟩ := hcu
      have HV : Hid (RS 1 RInt wr w.heap.size (List.replicate n 1) (.slice (some ⟨g, 0, none⟩) n n)) := hide (by
        have hs : cur.size = n := by rw [← Array.length_toList, hcl]; simp [onesL]
        have ho : OI w.heap.size wr (.slice (some ⟨g, 0, none⟩) n n) (List.replicate n 1) := by
          unfold OI
          rw [List.length_replicate]
          refine ⟨by simp, .inr ⟨g, n, cur, rfl, hgw, hcur, Nat.le_refl _, by unfold maxLen; omega, by omega, ?_⟩⟩
          rw [List.take_of_length_le (by rw [Array.length_toList]; omega), hcl]
          simp [onesL]
        exact ho.read (by rw [List.length_replicate]; unfold maxLen; omega))
      have HB := hide hb
      clear hcur hcl hb
      go_wp2_with fail
      exact bodyPost_ret (v := .slice (some ⟨g, 0, none⟩) n n) (by simp [results, Tryz.results32, go_sem]) rfl ⟨⟨_, rfl, unhide HV⟩, unhide HB⟩
end Go.Proofs.YtdmmbhemmbgcpabGreat
