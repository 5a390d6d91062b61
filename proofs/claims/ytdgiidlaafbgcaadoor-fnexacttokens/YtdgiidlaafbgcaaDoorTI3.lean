/- What the program's tokenAt answers where no name and no number begins: the first mark that fits. -/
import Derived.Test.YtdgiidlaafbgcaaDoorTI2
import Derived.Deep.MidRow
namespace Go.Proofs.YtdgiidlaafbgcaaDoor
open Go.RowKit
set_option linter.unusedVariables false
theorem run_index_agg (k : Nat) (M : Array Value) (v : Value) (w : World) (hk : k < 36) (hv : M[k]? = some v) : (Instr.index 42 (.agg M) (.int .i64 (k : Int))).run Tryd.prog w = .ok v w := by
  have h0 : (0 : Int) ≤ (k : Int) ∧ (k : Int) < ((36 : Nat) : Int) := by omega
  have c9 : (sizeOf 9).run Tryd.prog w = .ok 1 w := by kernel_rfl
  simp [Instr.index, run_underlying Tryd.underlying42, asIntOf, h0, go_sem, hv, c9]
  intro h; omega
theorem find_at {α : Type} (p : α → Bool) (d : α) : ∀ (xs : List α) (k : Nat), (∀ j, j < k → p (xs.getD j d) = false) → k < xs.length → p (xs.getD k d) = true → xs.find? p = some (xs.getD k d)
  | [], k, _, h, _ => by simp at h
  | x :: xs, 0, _, _, h => by
    have : p x = true := h
    rw [List.find?_cons, this]; rfl
  | x :: xs, k + 1, hj, hk, h => by
    have h0 : p x = false := hj 0 (by omega)
    rw [List.find?_cons, h0]
    exact find_at p d xs k (fun j hj' => hj (j + 1) (by omega)) (by simpa using hk) h
theorem find_no {α : Type} (p : α → Bool) (d : α) : ∀ (xs : List α), (∀ j, j < xs.length → p (xs.getD j d) = false) → xs.find? p = none
  | [], _ => rfl
  | x :: xs, hj => by
    have h0 : p x = false := hj 0 (by simp)
    rw [List.find?_cons, h0]
    exact find_no p d xs (fun j hj' => hj (j + 1) (by simpa using hj'))
theorem marksL_len : Nb.marksL.length = 36 := by decide
def mksV : List Value := Nb.marksL.map fun m => .string (S m)
theorem mksV_at (k : Nat) (h : k < 36) : mksV.toArray[k]? = some (.string (S (Nb.marksL.getD k []))) := by
  have : Nb.marksL.length = 36 := by decide
  rw [List.getElem?_toArray, mksV, List.getElem?_map, List.getD_eq_getElem?_getD, List.getElem?_eq_getElem (by omega)]; rfl
/-- The variable of the marks holds them. -/
def Mk (w : World) : Prop := w.rangeAt 0 0 mksV
theorem Mk_later {w v : World} (h : Mk w) (h0 : 0 < w.heap.size) (hb : Below w.heap.size w v) : Mk v := fun j x hx => (hb.cell (p := ⟨0, 0 + j, none⟩) h0).trans (h j x hx)
def mkR (l : List UInt8) (a : Nat) : Value := match Nb.markL l with
  | some m => .tuple #[tkV 3 m a, .int .i64 0]
  | none => .tuple #[tkV 0 [] 0, .int .i64 3]
set_option maxRecDepth 100000 in
set_option maxHeartbeats 400000 in
theorem iTokMark (s : ByteArray) (a : Nat) (w : World) (hs : s.size ≤ 1000000) (ha : a < s.size) (hN : Nb.nameL ((L s).drop a) = 0) (hZ : Nb.numZ ((L s).drop a) = 0) (hM : Mk w) (h0 : 0 < w.heap.size) (R : Value) (hR : mkR ((L s).drop a) a = R) :
    Calls Tryd.prog 15 #[.string s, .int .i64 a] w fun e w' => e = .returned R ∧ Below w.heap.size w w' := by
  have zb : (s.extract a s.size).size = s.size - a := by rw [← L_len, L_extract, List.length_take, List.length_drop, L_len]; omega
  have lb : L (s.extract a s.size) = (L s).drop a := by rw [L_extract, List.take_of_length_le (by rw [List.length_drop, L_len]; omega)]
  have NS := hide (fun v => iName (s.extract a s.size) 0 v (by omega) (by rw [lb]; exact hN))
  have NZ := hide (fun v => iNumSize (s.extract a s.size) v (by omega))
  rw [lb, hZ] at NZ
  have HM := hide hM
  have HR := hide hR
  have LB := hide lb
  clear hN lb hZ hM hR
  go_enter Tryd.func15, Tryd.ntmps15
  go_wp2_with (first | (go_at_call 21; refine (unhide NS _).mono ?_; rintro e v1 ⟨rfl, hb1⟩; have HB1 := hide hb1; clear hb1) | (go_at_call 22; refine (unhide NZ _).mono ?_; rintro e v2 ⟨rfl, hb2⟩; have HB2 := hide (below_step (unhide HB1) hb2); clear hb2) | (refine wpList_load_mid rfl 42 (.global 0) rfl 0 0 rfl mksV _ (Mk_later (unhide HM) h0 (btr (bal (brf w) _) (unhide HB2))) Tryd.underlying42 rfl (by kernel_rfl) ?_))
  obtain ⟨hc1, hf1⟩ := bcell (unhide HB2)
  go_loop [36] (fun i => ∃ k : Nat, k ≤ 36 ∧ i = .int .i64 k ∧ ∀ j, j < k → (Nb.marksL.getD j []).isPrefixOf ((L s).drop a) = false) (fun i => 36 - (intOf i).toNat)
  case atStart => exact ⟨0, Nat.zero_le _, rfl, fun j hj => absurd hj (Nat.not_lt_zero _)⟩
  case round =>
    obtain ⟨k, hk, rfl, hno⟩ := hrel
    by_cases hk2 : k < 36
    · have hix := fun v => run_index_agg k mksV.toArray _ v hk2 (mksV_at k hk2)
      have HP := hide (fun v => Tryd.strings_HasPrefix (s.extract a s.size) (S (Nb.marksL.getD k [])) v)
      have hpe : Lib.hasPrefix (s.extract a s.size).data.toList (S (Nb.marksL.getD k [])).data.toList = (Nb.marksL.getD k []).isPrefixOf ((L s).drop a) := by
        have e1 : (s.extract a s.size).data.toList = (L s).drop a := unhide LB
        have e2 : (S (Nb.marksL.getD k [])).data.toList = Nb.marksL.getD k [] := L_S _
        rw [e1, e2]; rfl
      rw [hpe] at HP
      clear hpe
      cases hp : (Nb.marksL.getD k []).isPrefixOf ((L s).drop a) with
      | false =>
        rw [hp] at HP
        have HQ := hide hp
        have HNO := hide hno
        clear hp hno
        generalize Nb.marksL.getD k [] = m at hix HP
        generalize mksV.toArray = M at *
        go_wp2_with (go_at_call 23; refine (unhide HP _).mono ?_; rintro e v3 ⟨rfl, rfl⟩)
        exact ⟨⟨k + 1, by omega, by go_num, fun j hj => by
          by_cases e : j = k
          · subst e; exact unhide HQ
          · exact unhide HNO j (by omega)⟩, by simp [intOf]; omega⟩
      | true =>
        rw [hp] at HP
        have HX : Hid (Value.tuple #[tkV 3 (Nb.marksL.getD k []) a, .int .i64 0] = R) := hide (by
          rw [← unhide HR]; unfold mkR Nb.markL
          rw [find_at (fun m : List UInt8 => m.isPrefixOf ((L s).drop a)) [] Nb.marksL k hno (by rw [marksL_len]; omega) hp])
        clear hp hno
        generalize Nb.marksL.getD k [] = m at *
        generalize mksV.toArray = M at *
        go_wp2_with (go_at_call 23; refine (unhide HP _).mono ?_; rintro e v3 ⟨rfl, rfl⟩)
        refine bodyPost_ret (v := .tuple #[tkV 3 m a, .int .i64 0]) (by simp [results, Tryd.results15, go_sem, hc1, tkV]) rfl ⟨by rw [unhide HX], ?_⟩
        repeat first | exact brf _ | refine bdr ?_ | refine bst ?_ (by first | exact Nat.le_refl _ | (simp; done) | (simp; omega)) _ | refine btr ?_ (unhide HB2) | refine bal ?_ _
    · have HX : Hid (Value.tuple #[tkV 0 [] 0, .int .i64 3] = R) := hide (by
        rw [← unhide HR]; unfold mkR Nb.markL
        rw [find_no (fun m : List UInt8 => m.isPrefixOf ((L s).drop a)) [] Nb.marksL (fun j hj => hno j (by rw [marksL_len] at hj; omega))])
      clear hno
      go_wp2
      refine bodyPost_ret (v := .tuple #[tkV 0 [] 0, .int .i64 3]) (by simp [results, Tryd.results15, go_sem, hc1, tkV, S]) rfl ⟨by rw [unhide HX], ?_⟩
      repeat first | exact brf _ | refine bdr ?_ | refine bst ?_ (by first | exact Nat.le_refl _ | (simp; done) | (simp; omega)) _ | refine btr ?_ (unhide HB2) | refine bal ?_ _
set_option maxRecDepth 100000 in
set_option maxHeartbeats 400000 in
theorem iTokNum (s : ByteArray) (a N : Nat) (w : World) (hs : s.size ≤ 1000000) (ha : a < s.size) (hN : Nb.nameL ((L s).drop a) = 0) (hZ : Nb.numZ ((L s).drop a) = N) (h0 : 0 < N) :
    Calls Tryd.prog 15 #[.string s, .int .i64 a] w fun e w' => e = .returned (.tuple #[tkV 2 (((L s).drop a).take N) a, .int .i64 0]) ∧ Below w.heap.size w w' := by
  have zb : (s.extract a s.size).size = s.size - a := by rw [← L_len, L_extract, List.length_take, List.length_drop, L_len]; omega
  have lb : L (s.extract a s.size) = (L s).drop a := by rw [L_extract, List.take_of_length_le (by rw [List.length_drop, L_len]; omega)]
  have NS := hide (fun v => iName (s.extract a s.size) 0 v (by omega) (by rw [lb]; exact hN))
  have NZ := hide (fun v => iNumSize (s.extract a s.size) v (by omega))
  have hle : N ≤ s.size - a := by have := Nb.numZ_le ((L s).drop a); rw [List.length_drop, L_len] at this; omega
  have E : Hid ((s.extract a s.size).extract 0 N = S (((L s).drop a).take N)) := hide (by apply L_inj; rw [L_extract, lb, L_S, List.drop_zero, Nat.sub_zero])
  rw [lb, hZ] at NZ
  clear hN lb hZ
  go_enter Tryd.func15, Tryd.ntmps15
  go_wp2_with (first | (go_at_call 21; refine (unhide NS _).mono ?_; rintro e v1 ⟨rfl, hb1⟩; have HB1 := hide hb1; clear hb1) | (go_at_call 22; refine (unhide NZ _).mono ?_; rintro e v2 ⟨rfl, hb2⟩; have HB2 := hide (below_step (unhide HB1) hb2); clear hb2; obtain ⟨hc1, hf1⟩ := bcell (unhide HB2)))
  refine bodyPost_ret (v := .tuple #[tkV 2 (((L s).drop a).take N) a, .int .i64 0]) (by unfold tkV; rw [← unhide E]; simp [results, Tryd.results15, go_sem, hc1]) rfl ⟨rfl, ?_⟩
  repeat first | exact brf _ | refine bdr ?_ | refine bst ?_ (by first | exact Nat.le_refl _ | (simp; done) | (simp; omega)) _ | refine btr ?_ (unhide HB2) | refine bal ?_ _
end Go.Proofs.YtdgiidlaafbgcaaDoor
