/- What the program's bitsOfDigits answers. -/
import Derived.Test.YtdgiidlaafbgcabGreatDoorNI4
import Derived.BigCall
namespace Go.Proofs.YtdgiidlaafbgcabGreatDoor
open Go.RowKit
set_option linter.unusedVariables false
set_option linter.unusedSimpArgs false
theorem grown_below {w W : World} (hb : Below w.heap.size w W) : w.grownBy W none := ⟨hb.os, hb.tape, hb.output, hb.size, fun k hk _ => hb.block k hk⟩
theorem atF_later {T e : TypeId} {B b : Nat} {p : Value} {bs : List Value} {w W : World} (h : Lib.BuilderAtF T e B b p bs w) (hb : Below w.heap.size w W) : Lib.BuilderAtF T e B b p bs W := by
  have hlt := h.lt
  obtain ⟨hB, v, h1, h2, h3⟩ := h
  exact ⟨hB, v, (hb.block b hlt).trans h1, h2.kept (grown_below hb) (by cases v.ownBlock <;> simp), h3⟩
theorem isF_later {T e : TypeId} {B b : Nat} {bs : List Value} {w W : World} (h : Lib.IsBuilderF T e B b bs w) (hb : Below w.heap.size w W) : Lib.IsBuilderF T e B b bs W :=
  h.imp (fun h => atF_later h hb) (fun h => atF_later h hb)
theorem iter_later {w W : World} {k : Nat} {s : ByteArray} {pos : Nat} (h : w.heap[k]? = some (.stringIter s pos)) (hb : Below w.heap.size w W) : W.heap[k]? = some (.stringIter s pos) :=
  (hb.block k (Array.getElem?_eq_some_iff.1 h).1).trans h
theorem S_empty {l : List UInt8} (h : l ≠ []) : (S l).toList.isEmpty = false := by
  rw [ByteArray.toList_eq]; show l.isEmpty = false
  cases l with
  | nil => exact absurd rfl h
  | cons _ _ => rfl
theorem strCells_S (l : List UInt8) : Lib.strCells (S l) = Lib.byteCells l := rfl
theorem iBStr (B b : Nat) (l : List UInt8) (w : World) (h : Lib.IsBuilderF 67 5 B b (Lib.byteCells l) w) (hBw : B ≤ w.heap.size) :
    Calls Tryz.prog 48 #[.pointer (some ⟨b, 0, none⟩)] w fun e w' => e = .returned (.string (S l)) ∧ Below B w w' :=
  (Tryz.Builder_String_any_k B b l w h hBw).mono fun e w' ⟨a, _, c, _⟩ => ⟨a, c⟩
theorem iTrim0 (s : ByteArray) (w : World) (hs : s.size ≤ maxLen) :
    Calls Tryz.prog 49 #[.string s, .string ⟨#[48]⟩] w fun e w' => e = .returned (.string (S (Lib.trimB (L s) 48))) ∧ Below w.heap.size w w' :=
  (Tryz.strings_Trim_one s 48 (by decide) w hs).mono fun e w' ⟨a, b⟩ => ⟨a, by rcases b with rfl | rfl; exact brf _; exact bdr (brf _)⟩
theorem dropWhile_nil (p : UInt8 → Bool) (l : List UInt8) : l.dropWhile p = [] ↔ l.all p = true := by
  induction l with
  | nil => simp
  | cons c t ih =>
    rw [List.dropWhile_cons, List.all_cons]
    cases hc : p c
    · simp
    · simpa using ih
theorem trimB_empty (l : List UInt8) : (S (Lib.trimB l 48)).data.toList.isEmpty = l.all (fun c => c == 48) := by
  show (Lib.trimB l 48).isEmpty = _
  have h1 : (Lib.trimB l 48 = []) ↔ l.all (fun c => c == 48) = true := by
    unfold Lib.trimB Lib.trimLeftB Lib.trimRightB
    rw [dropWhile_nil]
    constructor
    · intro h
      have e : l.reverse.dropWhile (· == 48) = [] := by
        cases hd : l.reverse.dropWhile (· == 48) with
        | nil => rfl
        | cons c t =>
          have h2 := List.head_dropWhile_not (p := (· == 48)) (l := l.reverse) (by rw [hd]; simp)
          rw [hd] at h
          simp only [hd, List.head_cons] at h2
          have h3 := List.all_eq_true.1 h c (by simp)
          rw [h3] at h2; exact absurd h2 (by decide)
      rw [dropWhile_nil, List.all_reverse] at e
      exact e
    · intro h
      have e : l.reverse.dropWhile (· == 48) = [] := by rw [dropWhile_nil, List.all_reverse]; exact h
      rw [e]; rfl
  cases h : l.all (fun c => c == 48)
  · rw [List.isEmpty_eq_false_iff]; intro e; rw [h1.1 e] at h; exact absurd h (by decide)
  · rw [h1.2 h]; rfl
theorem headD_get {l : List UInt8} (h : 0 < l.length) : l.headD 0 = l[0] := by
  cases l with
  | nil => simp at h
  | cons c t => rfl
/-- What bitsOfDigits tells. -/
def digR (sz n : Nat) (v : List UInt8) : List UInt8 × Nat := match Nb.digsA sz [] v with
  | none => ([], 3)
  | some all => match Nb.fitT n (Nb.padC v) all with
    | none => ([], 11)
    | some r => (r, 0)
set_option maxRecDepth 100000 in
set_option maxHeartbeats 800000 in
theorem iDigs (s : ByteArray) (sz n : Nat) (w : World) (hs : s.size ≤ 1000) (h1 : 1 ≤ n) (h2 : n ≤ 64) (hsz : sz = 1 ∨ sz = 3 ∨ sz = 4) (hv : (L s).all Nb.valB = true) (h0 : 1 ≤ s.size) (R : List UInt8 × Nat) (hR : digR sz n (L s) = R) :
    Calls Tryz.prog 29 #[.string s, .int .i64 sz, .int .i64 n] w fun e w' => e = .returned (bdV R) ∧ Below w.heap.size w w' := by
  have HV := hide hv
  have HR := hide hR
  have hs4 : sz ≤ 4 := by omega
  have hs1 : 1 ≤ sz := by omega
  have HSZ := hide hsz
  clear hv hR hsz
  go_enter Tryz.func29, Tryz.ntmps29
  go_wp2
  go_loopw [] (fun wr => ∃ (pos : Nat) (acc : List UInt8), Lib.IsBuilderF 67 5 w.heap.size w.heap.size (Lib.byteCells acc) wr ∧ wr.heap[w.heap.size + 1]? = some (.stringIter s pos) ∧ Below w.heap.size w wr ∧ pos ≤ s.size ∧ Nb.digsA sz [] ((L s).take pos) = some acc ∧ acc.length = sz * pos) (fun wr => s.size - wr.iterPos (w.heap.size + 1))
  case atStart =>
    refine ⟨0, [], (Lib.IsBuilderF.of (Lib.fresh_isBuilder 67 5 w)).alloc _, ?_, ((Below.refl _ w).alloc (Nat.le_refl _) _).alloc (by simp) _, by omega, rfl, rfl⟩
    have := World.iter_heap (w.alloc (.cells #[.pointer none, .slice none 0 0] 67)) s 0
    simpa using this
  case round =>
    obtain ⟨pos, acc, hI, hit, hbw, hps, hda, hal⟩ := hrel
    have hsz : w.heap.size + 1 < wr.heap.size := (Array.getElem?_eq_some_iff.1 hit).1
    by_cases hp : pos < s.size
    · have hcv : Nb.valB s[pos] = true := List.all_eq_true.1 (unhide HV) _ (L_mem s pos hp)
      have hdec := decode_ascii s pos hp (val_ascii hcv)
      have hnx : ∀ ty, (Instr.next (.pointer (some ⟨w.heap.size + 1, 0, none⟩)) true ty).run Tryz.prog wr = _ := fun ty => Lib.run_next_any_at wr (w.heap.size + 1) s pos ty hit hp
      rw [hdec] at hnx
      have hI2 := hI.iterAt hit (pos + 1)
      have hit2 := Lib.iterAt_heap wr (w.heap.size + 1) s pos (pos + 1) hit
      have hbw2 := Lib.below_iterAt hbw (k := w.heap.size + 1) (by omega) s (pos + 1)
      have hsz2 : w.heap.size ≤ (wr.iterAt (w.heap.size + 1) s (pos + 1)).heap.size := by rw [Lib.iterAt_size]; omega
      have DG := hide (fun v => iDigit s[pos] sz v hcv (unhide HSZ))
      have hsn := Nb.digsA_snoc sz ((L s).take pos) [] s[pos] hda
      rw [← L_take s pos hp] at hsn
      have HI := hide hI
      have HI2 := hide hI2
      have HIT := hide hit
      have HIT2 := hide hit2
      have HBW2 := hide hbw2
      clear hI hI2 hit hit2 hbw hbw2 hdec hcv
      cases hdt : Nb.digT sz s[pos] with
      | none =>
        rw [hdt] at DG hsn
        have HR2 : Hid (([], 3) = R) := hide (by
          rw [← unhide HR]; unfold digR
          have := Nb.digsA_bad sz ((L s).take (pos + 1)) [] ((L s).drop (pos + 1)) hsn
          rw [List.take_append_drop] at this
          rw [this])
        have he0 : (S []).toList.isEmpty = true := by rw [ByteArray.toList_eq]; rfl
        have DG2 : Hid (∀ v, Calls Tryz.prog 46 #[.int .i32 (s[pos].toNat : Int), .int .i64 sz] v fun e w' => e = .returned (.string (S [])) ∧ Below v.heap.size v w') := unhide DG
        clear hsn hda hdt DG
        go_wp2_with (go_at_call 46; refine (unhide DG2 _).mono ?_; rintro e v1 ⟨rfl, hb1⟩)
        exact bodyPost_ret (v := bdV ([], 3)) (by simp [results, Tryz.results29, go_sem, bdV, S]) rfl ⟨by rw [unhide HR2], (unhide HBW2).trans (hb1.mono hsz2)⟩
      | some y =>
        rw [hdt] at DG hsn
        have hyl := Nb.digT_len hdt
        have hye : (S y).toList.isEmpty = false := S_empty (fun e => by rw [e] at hyl; simp at hyl; omega)
        have DG2 : Hid (∀ v, Calls Tryz.prog 46 #[.int .i32 (s[pos].toNat : Int), .int .i64 sz] v fun e w' => e = .returned (.string (S y)) ∧ Below v.heap.size v w') := unhide DG
        have HSN := hide hsn
        have zy : (S y).size = sz := by rw [S_size, hyl]
        clear hsn hda hdt DG
        go_wp2_with (go_at_call 46; refine (unhide DG2 _).mono ?_; rintro e v1 ⟨rfl, hb1⟩)
        have hv1 : w.heap.size ≤ v1.heap.size := Nat.le_trans hsz2 hb1.size
        refine (Tryz.Builder_WriteString_k w.heap.size w.heap.size _ (S y) v1 (isF_later (unhide HI2) hb1) (by rw [Lib.byteCells_length, hal, zy]; have : sz * pos ≤ 4 * 1000 := Nat.mul_le_mul hs4 (by omega); omega) hv1).mono ?_
        rintro e W1 ⟨rfl, hw1, b1, k1⟩
        have hit3 := k1.iter (iter_later (unhide HIT2) hb1) (by omega)
        have HW1 := hide hw1
        have HIT3 := hide hit3
        have HB3 := hide ((((unhide HBW2).trans (hb1.mono hsz2))).trans b1)
        clear hw1 hit3 b1 k1 hb1
        go_wp2
        go_roundw
        case rel =>
          refine ⟨pos + 1, acc ++ y, ?_, unhide HIT3, unhide HB3, by omega, unhide HSN, by rw [List.length_append, hal, hyl, Nat.mul_add, Nat.mul_one]⟩
          rw [Lib.byteCells_append, ← strCells_S y]; exact Or.inr (unhide HW1)
        case measure =>
          simp only [World.iterPos, unhide HIT3, unhide HIT]
          omega
    · have hpe : (L s).take pos = L s := L_take_all s pos (by omega)
      rw [hpe] at hda
      have hnx : ∀ ty, (Instr.next (.pointer (some ⟨w.heap.size + 1, 0, none⟩)) true ty).run Tryz.prog wr = _ := fun ty => Lib.run_next_end_at wr (w.heap.size + 1) s pos ty hit hp
      obtain rfl : pos = s.size := by omega
      have hal2 : acc.length ≤ 4000 := by rw [hal]; exact Nat.mul_le_mul hs4 hs
      have HDA := hide hda
      have HI := hide hI
      have HBW := hide hbw
      clear hda hI hbw hit hpe hal
      go_wp2_with fail
      refine (iBStr w.heap.size w.heap.size acc _ (unhide HI) (by omega)).mono ?_
      rintro e W1 ⟨rfl, b1⟩
      have HB1 := hide ((unhide HBW).trans b1)
      clear b1
      have za : (S acc).size = acc.length := S_size acc
      by_cases hlong : n < acc.length
      · obtain ⟨m, hxm⟩ : ∃ m, acc.length = m + n := ⟨acc.length - n, by omega⟩
        rw [hxm] at za
        have hm4 : m ≤ 4000 := by omega
        have hm1 : 1 ≤ m := by omega
        have xc : (S acc).extract 0 m = S (acc.take m) := by
          apply L_inj; rw [L_extract, L_S, L_S, List.drop_zero, Nat.sub_zero]
        have xd : (S acc).extract m (m + n) = S (acc.drop m) := by
          apply L_inj; rw [L_extract, L_S, L_S, List.take_of_length_le (by rw [List.length_drop]; omega)]
        have TR := hide (fun v => iTrim0 (S (acc.take m)) v (by rw [S_size, List.length_take]; unfold maxLen; omega))
        rw [L_S] at TR
        have hfit : Nb.fitT n (Nb.padC (L s)) acc = if (acc.take m).all (fun c => c == 48) = true then some (acc.drop m) else none := by
          unfold Nb.fitT; rw [if_pos hlong, hxm, Nat.add_sub_cancel]
        have hem : (S (Lib.trimB (acc.take m) 48)).toList.isEmpty = (acc.take m).all (fun c => c == 48) := by
          rw [ByteArray.toList_eq]; exact trimB_empty _
        by_cases hz : (acc.take m).all (fun c => c == 48) = true
        · have HR2 : Hid ((acc.drop m, 0) = R) := hide (by rw [← unhide HR]; unfold digR; rw [unhide HDA]; simp only [hfit, hz, if_true])
          rw [hz] at hem
          clear hfit hz hlong hxm hal2
          go_wp2_with (go_at_call 49; refine (unhide TR _).mono ?_; rintro e v2 ⟨rfl, hb2⟩)
          exact bodyPost_ret (v := bdV (acc.drop m, 0)) (by simp [results, Tryz.results29, go_sem, bdV]) rfl ⟨by rw [unhide HR2], below_step (unhide HB1) hb2⟩
        · have hz' : (acc.take m).all (fun c => c == 48) = false := by simpa using hz
          have HR2 : Hid (([], 11) = R) := hide (by rw [← unhide HR]; unfold digR; rw [unhide HDA]; simp only [hfit, hz', if_false]; rfl)
          rw [hz'] at hem
          clear hfit hz hz' hlong hxm hal2
          go_wp2_with (go_at_call 49; refine (unhide TR _).mono ?_; rintro e v2 ⟨rfl, hb2⟩)
          exact bodyPost_ret (v := bdV ([], 11)) (by simp [results, Tryz.results29, go_sem, bdV, S]) rfl ⟨by rw [unhide HR2], below_step (unhide HB1) hb2⟩
      · obtain ⟨j, hj⟩ : ∃ j, j + acc.length = n := ⟨n - acc.length, by omega⟩
        have hp0 : 0 < s.size := h0
        have hfit : Nb.fitT n (Nb.padC (L s)) acc = some (List.replicate j (Nb.padC (L s)) ++ acc) := by
          unfold Nb.fitT; rw [if_neg hlong, show n - acc.length = j by omega]
        have HR2 : Hid ((List.replicate j (Nb.padC (L s)) ++ acc, 0) = R) := hide (by rw [← unhide HR]; unfold digR; rw [unhide HDA]; simp only [hfit])
        have hpc : Nb.padC (L s) = if s[0] = 120 ∨ s[0] = 122 then s[0] else 48 := by
          unfold Nb.padC; rw [show (L s).headD 0 = s[0] from headD_get (by rw [L_len]; exact hp0)]
        have RP := fun c v => iRep (S [c]) j v (by rw [S_size]; simp; omega) (by omega)
        simp only [L_S, rep_one] at RP
        have eRA : ∀ c, S (List.replicate j c) ++ S acc = S (List.replicate j c ++ acc) := fun c => S_app' _ _
        have zR : ∀ c, (S (List.replicate j c)).size = j := fun c => by rw [S_size, List.length_replicate]
        by_cases c1 : s[0] = 120
        · have hc := c1
          have x0 : s.extract 0 1 = S [120] := by have := ext_one s 0 hp0; rwa [hc] at this
          rw [hc, if_pos (by decide)] at hpc
          have HR3 : Hid ((List.replicate j 120 ++ acc, 0) = R) := hide (by rw [← hpc]; exact unhide HR2)
          have RR := hide (RP 120)
          have eR := eRA 120
          have zz := zR 120
          clear hfit hlong hpc eRA zR RP
          go_wp2_with (go_at_call 50; rw [show (n : Int) - (acc.length : Int) = (j : Int) by omega]; refine (unhide RR _).mono ?_; rintro e v2 ⟨rfl, hb2⟩)
          exact bodyPost_ret (v := bdV (List.replicate j 120 ++ acc, 0)) (by simp [results, Tryz.results29, go_sem, bdV]) rfl ⟨by rw [unhide HR3], below_step (unhide HB1) hb2⟩
        by_cases c2 : s[0] = 122
        · have hc := c2
          have x0 : s.extract 0 1 = S [122] := by have := ext_one s 0 hp0; rwa [hc] at this
          rw [hc, if_pos (by decide)] at hpc
          have HR3 : Hid ((List.replicate j 122 ++ acc, 0) = R) := hide (by rw [← hpc]; exact unhide HR2)
          have RR := hide (RP 122)
          have eR := eRA 122
          have zz := zR 122
          clear hfit hlong hpc eRA zR RP
          go_wp2_with (go_at_call 50; rw [show (n : Int) - (acc.length : Int) = (j : Int) by omega]; refine (unhide RR _).mono ?_; rintro e v2 ⟨rfl, hb2⟩)
          exact bodyPost_ret (v := bdV (List.replicate j 122 ++ acc, 0)) (by simp [results, Tryz.results29, go_sem, bdV]) rfl ⟨by rw [unhide HR3], below_step (unhide HB1) hb2⟩
        rw [if_neg (by rintro (h | h); exact c1 h; exact c2 h)] at hpc
        have q1 : ((s[0].toNat : Int) == 120) = false := u8x c1
        have q2 : ((s[0].toNat : Int) == 122) = false := u8x c2
        have HR3 : Hid ((List.replicate j 48 ++ acc, 0) = R) := hide (by rw [← hpc]; exact unhide HR2)
        have RR : Hid (∀ v, Calls Tryz.prog 50 #[.string ⟨#[48]⟩, .int .i64 j] v fun e w' => e = .returned (.string (S (List.replicate j 48))) ∧ Below v.heap.size v w') := RP 48
        have eR := eRA 48
        have zz := zR 48
        clear hfit hlong hpc eRA zR RP c1 c2
        go_wp2_with (go_at_call 50; rw [show (n : Int) - (acc.length : Int) = (j : Int) by omega]; refine (unhide RR _).mono ?_; rintro e v2 ⟨rfl, hb2⟩)
        exact bodyPost_ret (v := bdV (List.replicate j 48 ++ acc, 0)) (by simp [results, Tryz.results29, go_sem, bdV]) rfl ⟨by rw [unhide HR3], below_step (unhide HB1) hb2⟩
end Go.Proofs.YtdgiidlaafbgcabGreatDoor
