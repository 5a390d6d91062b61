/- Parts of the proof: NI5 to PI4. -/
import Derived.Test.YtddlokkejglckaaGreatDoorMNI1
import Derived.BigCall
import Derived.Test.YtddlokkejglckaaGreatDoorMNG3
import Derived.Test.YtddlokkejglckaaGreatDoorShelf2
import Derived.Test.YtddlokkejglckaaGreatDoorMPD1
import Derived.Deep.RegionHeld3
namespace Go.Proofs.YtddlokkejglckaaGreatDoor
open Go.RowKit
set_option maxRecDepth 100000
set_option linter.unusedVariables false
set_option linter.unusedSimpArgs false
theorem grown_below {w W : World} (hb : Below w.heap.size w W) : w.grownBy W none := ⟨hb.os, hb.tape, hb.output, hb.size, fun k hk _ => hb.block k hk⟩
theorem atF_later {T e : TypeId} {B b : Nat} {p : Value} {bs : List Value} {w W : World} (h : Lib.BuilderAtF T e B b p bs w) (hb : Below w.heap.size w W) : Lib.BuilderAtF T e B b p bs W := by
 have hlt := h.lt
 obtain ⟨hB, v, h1, h2, h3⟩ := h
 exact ⟨hB, v, (hb.block b hlt).trans h1, h2.kept (grown_below hb) (by cases v.ownBlock <;> simp), h3⟩
theorem isF_later {T e : TypeId} {B b : Nat} {bs : List Value} {w W : World} (h : Lib.IsBuilderF T e B b bs w) (hb : Below w.heap.size w W) : Lib.IsBuilderF T e B b bs W :=
 h.imp (fun h => atF_later h hb) (fun h => atF_later h hb)
theorem iter_later {w W : World} {k : Nat} {s : ByteArray} {pos : Nat} (h : w.heap[k]? = some (.stringIter s pos)) (hb : Below w.heap.size w W) : W.heap[k]? = some (.stringIter s pos) :=
 (hb.block k (Array.getElem?_eq_some_iff.1 h).1).trans h
theorem S_empty {l : List UInt8} (h : l ≠ []) : (S l).toList.isEmpty = false := by
 rw [ByteArray.toList_eq]; show l.isEmpty = false
 cases l with
 | nil => exact absurd rfl h
 | cons _ _ => rfl
theorem strCells_S (l : List UInt8) : Lib.strCells (S l) = Lib.byteCells l := rfl
theorem iBStr (B b : Nat) (l : List UInt8) (w : World) (h : Lib.IsBuilderF 62 5 B b (Lib.byteCells l) w) (hBw : B ≤ w.heap.size) :
   Calls Tryz.prog 32 #[.pointer (some ⟨b, 0, none⟩)] w fun e w' => e = .returned (.string (S l)) ∧ Below B w w' :=
 (Tryz.Builder_String_any_k B b l w h hBw).mono fun e w' ⟨a, _, c, _⟩ => ⟨a, c⟩
theorem iTrim0 (s : ByteArray) (w : World) (hs : s.size ≤ maxLen) :
   CB 110 #[.string s, .string ⟨#[48]⟩] w (.string (S (Lib.trimB (L s) 48))) :=
 (Tryz.strings_Trim_one s 48 (by decide) w hs).mono fun e w' ⟨a, b⟩ => ⟨a, by rcases b with rfl | rfl; exact brf _; exact bdr (brf _)⟩
theorem dropWhile_nil (p : UInt8 → Bool) (l : List UInt8) : l.dropWhile p = [] ↔ l.all p = true := by
 induction l with
 | nil => simp
 | cons c t ih =>
   rw [List.dropWhile_cons, List.all_cons]
   cases hc : p c
   · simp
   · simpa using ih
theorem trimB_empty (l : List UInt8) : (S (Lib.trimB l 48)).data.toList.isEmpty = l.all (fun c => c == 48) := by
 show (Lib.trimB l 48).isEmpty = _
 have h1 : (Lib.trimB l 48 = []) ↔ l.all (fun c => c == 48) = true := by
   unfold Lib.trimB Lib.trimLeftB Lib.trimRightB
   rw [dropWhile_nil]
   constructor
   · intro h
     have e : l.reverse.dropWhile (· == 48) = [] := by
       cases hd : l.reverse.dropWhile (· == 48) with
       | nil => rfl
       | cons c t =>
         have h2 := List.head_dropWhile_not (p := (· == 48)) (l := l.reverse) (by rw [hd]; simp)
         rw [hd] at h
         simp only [hd, List.head_cons] at h2
         have h3 := List.all_eq_true.1 h c (by simp)
         rw [h3] at h2; exact absurd h2 (by decide)
     rw [dropWhile_nil, List.all_reverse] at e
     exact e
   · intro h
     have e : l.reverse.dropWhile (· == 48) = [] := by rw [dropWhile_nil, List.all_reverse]; exact h
     rw [e]; rfl
 cases h : l.all (fun c => c == 48)
 · rw [List.isEmpty_eq_false_iff]; intro e; rw [h1.1 e] at h; exact absurd h (by decide)
 · rw [h1.2 h]; rfl
theorem headD_get {l : List UInt8} (h : 0 < l.length) : l.headD 0 = l[0] := by
 cases l with
 | nil => simp at h
 | cons c t => rfl
def ndigR (sz n : Nat) (v : List UInt8) : List UInt8 × Nat := match Nb.digsA sz [] v with
 | none => ([], 3)
 | some all => match Nb.fitT n (Nb.padC v) all with
   | none => ([], 11)
   | some r => (r, 0)
set_option maxRecDepth 100000 in
set_option maxHeartbeats 800000 in
theorem iDigs (s : ByteArray) (sz n : Nat) (w : World) (hs : s.size ≤ 1000) (h1 : 1 ≤ n) (h2 : n ≤ 64) (hsz : sz = 1 ∨ sz = 3 ∨ sz = 4) (hv : (L s).all Nb.valB = true) (h0 : 1 ≤ s.size) (R : List UInt8 × Nat) (hR : ndigR sz n (L s) = R) :
   CB 89 #[.string s, .int .i64 sz, .int .i64 n] w (bdV R) := by
 have HV := h_ hv
 have HR := h_ hR
 have hs4 : sz ≤ 4 := by omega
 have hs1 : 1 ≤ sz := by omega
 have HSZ := h_ hsz
 clear hv hR hsz
 go_enter Tryz.func89, Tryz.ntmps89
 go_wp2
 go_loopw [] (fun wr => ∃ (pos : Nat) (acc : List UInt8), Lib.IsBuilderF 62 5 w.heap.size w.heap.size (Lib.byteCells acc) wr ∧ wr.heap[w.heap.size + 1]? = some (.stringIter s pos) ∧ Below w.heap.size w wr ∧ pos ≤ s.size ∧ Nb.digsA sz [] ((L s).take pos) = some acc ∧ acc.length = sz * pos) (fun wr => s.size - wr.iterPos (w.heap.size + 1))
 case atStart =>
   refine ⟨0, [], (Lib.IsBuilderF.of (Lib.fresh_isBuilder 62 5 w)).alloc _, ?_, ((Below.refl _ w).alloc (Nat.le_refl _) _).alloc (by simp) _, by omega, rfl, rfl⟩
   have := World.iter_heap (w.alloc (.cells #[.pointer none, .slice none 0 0] 62)) s 0
   simpa using this
 case round =>
   obtain ⟨pos, acc, hI, hit, hbw, hps, hda, hal⟩ := hrel
   have hsz : w.heap.size + 1 < wr.heap.size := (Array.getElem?_eq_some_iff.1 hit).1
   by_cases hp : pos < s.size
   · have hcv : Nb.valB s[pos] = true := List.all_eq_true.1 (u_ HV) _ (L_mem s pos hp)
     have hdec := decode_ascii s pos hp (val_ascii hcv)
     have hnx : ∀ ty, (Instr.next (.pointer (some ⟨w.heap.size + 1, 0, none⟩)) true ty).run Tryz.prog wr = _ := fun ty => Lib.run_next_any_at wr (w.heap.size + 1) s pos ty hit hp
     rw [hdec] at hnx
     have hI2 := hI.iterAt hit (pos + 1)
     have hit2 := Lib.iterAt_heap wr (w.heap.size + 1) s pos (pos + 1) hit
     have hbw2 := Lib.below_iterAt hbw (k := w.heap.size + 1) (by omega) s (pos + 1)
     have hsz2 : w.heap.size ≤ (wr.iterAt (w.heap.size + 1) s (pos + 1)).heap.size := by rw [Lib.iterAt_size]; omega
     have DG := h_ (fun v => nDigit s[pos] sz v hcv (u_ HSZ))
     have hsn := Nb.digsA_snoc sz ((L s).take pos) [] s[pos] hda
     rw [← L_take s pos hp] at hsn
     have HI := h_ hI
     have HI2 := h_ hI2
     have HIT := h_ hit
     have HIT2 := h_ hit2
     have HBW2 := h_ hbw2
     clear hI hI2 hit hit2 hbw hbw2 hdec hcv
     cases hdt : Nb.digT sz s[pos] with
     | none =>
       rw [hdt] at DG hsn
       have HR2 : Hid (([], 3) = R) := h_ (by
         rw [← u_ HR]; unfold ndigR
         have := Nb.digsA_bad sz ((L s).take (pos + 1)) [] ((L s).drop (pos + 1)) hsn
         rw [List.take_append_drop] at this
         rw [this])
       have he0 : (S []).toList.isEmpty = true := by rw [ByteArray.toList_eq]; rfl
       have DG2 : Hid (∀ v, CB 109 #[.int .i32 (s[pos].toNat : Int), .int .i64 sz] v (.string (S []))) := u_ DG
       clear hsn hda hdt DG
       go_wp2_with (go_at_call 109; refine (u_ DG2 _).mono ?_; rintro e v1 ⟨rfl, hb1⟩)
       exact bodyPost_ret (v := bdV ([], 3)) (by simp [results, Tryz.results89, go_sem, bdV, S]) rfl ⟨by rw [u_ HR2], (u_ HBW2).trans (hb1.mono hsz2)⟩
     | some y =>
       rw [hdt] at DG hsn
       have hyl := Nb.digT_len hdt
       have hye : (S y).toList.isEmpty = false := S_empty (fun e => by rw [e] at hyl; simp at hyl; omega)
       have DG2 : Hid (∀ v, CB 109 #[.int .i32 (s[pos].toNat : Int), .int .i64 sz] v (.string (S y))) := u_ DG
       have HSN := h_ hsn
       have zy : (S y).size = sz := by rw [S_size, hyl]
       clear hsn hda hdt DG
       go_wp2_with (go_at_call 109; refine (u_ DG2 _).mono ?_; rintro e v1 ⟨rfl, hb1⟩)
       have hv1 : w.heap.size ≤ v1.heap.size := Nat.le_trans hsz2 hb1.size
       refine (Tryz.Builder_WriteString_k w.heap.size w.heap.size _ (S y) v1 (isF_later (u_ HI2) hb1) (by rw [Lib.byteCells_length, hal, zy]; have : sz * pos ≤ 4 * 1000 := Nat.mul_le_mul hs4 (by omega); omega) hv1).mono ?_
       rintro e W1 ⟨rfl, hw1, b1, k1⟩
       have hit3 := k1.iter (iter_later (u_ HIT2) hb1) (by omega)
       have HW1 := h_ hw1
       have HIT3 := h_ hit3
       have HB3 := h_ ((((u_ HBW2).trans (hb1.mono hsz2))).trans b1)
       clear hw1 hit3 b1 k1 hb1
       go_wp2
       go_roundw
       case rel =>
         refine ⟨pos + 1, acc ++ y, ?_, u_ HIT3, u_ HB3, by omega, u_ HSN, by rw [List.length_append, hal, hyl, Nat.mul_add, Nat.mul_one]⟩
         rw [Lib.byteCells_append, ← strCells_S y]; exact Or.inr (u_ HW1)
       case measure =>
         simp only [World.iterPos, u_ HIT3, u_ HIT]
         omega
   · have hpe : (L s).take pos = L s := L_take_all s pos (by omega)
     rw [hpe] at hda
     have hnx : ∀ ty, (Instr.next (.pointer (some ⟨w.heap.size + 1, 0, none⟩)) true ty).run Tryz.prog wr = _ := fun ty => Lib.run_next_end_at wr (w.heap.size + 1) s pos ty hit hp
     obtain rfl : pos = s.size := by omega
     have hal2 : acc.length ≤ 4000 := by rw [hal]; exact Nat.mul_le_mul hs4 hs
     have HDA := h_ hda
     have HI := h_ hI
     have HBW := h_ hbw
     clear hda hI hbw hit hpe hal
     go_wp2_with fail
     refine (iBStr w.heap.size w.heap.size acc _ (u_ HI) (by omega)).mono ?_
     rintro e W1 ⟨rfl, b1⟩
     have HB1 := h_ ((u_ HBW).trans b1)
     clear b1
     have za : (S acc).size = acc.length := S_size acc
     by_cases hlong : n < acc.length
     · obtain ⟨m, hxm⟩ : ∃ m, acc.length = m + n := ⟨acc.length - n, by omega⟩
       rw [hxm] at za
       have hm4 : m ≤ 4000 := by omega
       have hm1 : 1 ≤ m := by omega
       have xc : (S acc).extract 0 m = S (acc.take m) := by
         apply L_inj; rw [L_extract, L_S, L_S, List.drop_zero, Nat.sub_zero]
       have xd : (S acc).extract m (m + n) = S (acc.drop m) := by
         apply L_inj; rw [L_extract, L_S, L_S, List.take_of_length_le (by rw [List.length_drop]; omega)]
       have TR := h_ (fun v => iTrim0 (S (acc.take m)) v (by rw [S_size, List.length_take]; unfold maxLen; omega))
       rw [L_S] at TR
       have hfit : Nb.fitT n (Nb.padC (L s)) acc = if (acc.take m).all (fun c => c == 48) = true then some (acc.drop m) else none := by
         unfold Nb.fitT; rw [if_pos hlong, hxm, Nat.add_sub_cancel]
       have hem : (S (Lib.trimB (acc.take m) 48)).toList.isEmpty = (acc.take m).all (fun c => c == 48) := by
         rw [ByteArray.toList_eq]; exact trimB_empty _
       by_cases hz : (acc.take m).all (fun c => c == 48) = true
       · have HR2 : Hid ((acc.drop m, 0) = R) := h_ (by rw [← u_ HR]; unfold ndigR; rw [u_ HDA]; simp only [hfit, hz, if_true])
         rw [hz] at hem
         clear hfit hz hlong hxm hal2
         go_wp2_with (go_at_call 110; refine (u_ TR _).mono ?_; rintro e v2 ⟨rfl, hb2⟩)
         exact bodyPost_ret (v := bdV (acc.drop m, 0)) (by simp [results, Tryz.results89, go_sem, bdV]) rfl ⟨by rw [u_ HR2], below_nst (u_ HB1) hb2⟩
       · have hz' : (acc.take m).all (fun c => c == 48) = false := by simpa using hz
         have HR2 : Hid (([], 11) = R) := h_ (by rw [← u_ HR]; unfold ndigR; rw [u_ HDA]; simp only [hfit, hz', if_false]; rfl)
         rw [hz'] at hem
         clear hfit hz hz' hlong hxm hal2
         go_wp2_with (go_at_call 110; refine (u_ TR _).mono ?_; rintro e v2 ⟨rfl, hb2⟩)
         exact bodyPost_ret (v := bdV ([], 11)) (by simp [results, Tryz.results89, go_sem, bdV, S]) rfl ⟨by rw [u_ HR2], below_nst (u_ HB1) hb2⟩
     · obtain ⟨j, hj⟩ : ∃ j, j + acc.length = n := ⟨n - acc.length, by omega⟩
       have hp0 : 0 < s.size := h0
       have hfit : Nb.fitT n (Nb.padC (L s)) acc = some (List.replicate j (Nb.padC (L s)) ++ acc) := by
         unfold Nb.fitT; rw [if_neg hlong, show n - acc.length = j by omega]
       have HR2 : Hid ((List.replicate j (Nb.padC (L s)) ++ acc, 0) = R) := h_ (by rw [← u_ HR]; unfold ndigR; rw [u_ HDA]; simp only [hfit])
       have hpc : Nb.padC (L s) = if s[0] = 120 ∨ s[0] = 122 then s[0] else 48 := by
         unfold Nb.padC; rw [show (L s).headD 0 = s[0] from headD_get (by rw [L_len]; exact hp0)]
       have RP := fun c v => iRep (S [c]) j v (by rw [S_size]; simp; omega) (by omega)
       simp only [L_S, rep_one] at RP
       have eRA : ∀ c, S (List.replicate j c) ++ S acc = S (List.replicate j c ++ acc) := fun c => S_app' _ _
       have zR : ∀ c, (S (List.replicate j c)).size = j := fun c => by rw [S_size, List.length_replicate]
       by_cases c1 : s[0] = 120
       · have hc := c1
         have x0 : s.extract 0 1 = S [120] := by have := ext_one s 0 hp0; rwa [hc] at this
         rw [hc, if_pos (by decide)] at hpc
         have HR3 : Hid ((List.replicate j 120 ++ acc, 0) = R) := h_ (by rw [← hpc]; exact u_ HR2)
         have RR := h_ (RP 120)
         have eR := eRA 120
         have zz := zR 120
         clear hfit hlong hpc eRA zR RP
         go_wp2_with (go_at_call 111; rw [show (n : Int) - (acc.length : Int) = (j : Int) by omega]; refine (u_ RR _).mono ?_; rintro e v2 ⟨rfl, hb2⟩)
         exact bodyPost_ret (v := bdV (List.replicate j 120 ++ acc, 0)) (by simp [results, Tryz.results89, go_sem, bdV]) rfl ⟨by rw [u_ HR3], below_nst (u_ HB1) hb2⟩
       by_cases c2 : s[0] = 122
       · have hc := c2
         have x0 : s.extract 0 1 = S [122] := by have := ext_one s 0 hp0; rwa [hc] at this
         rw [hc, if_pos (by decide)] at hpc
         have HR3 : Hid ((List.replicate j 122 ++ acc, 0) = R) := h_ (by rw [← hpc]; exact u_ HR2)
         have RR := h_ (RP 122)
         have eR := eRA 122
         have zz := zR 122
         clear hfit hlong hpc eRA zR RP
         go_wp2_with (go_at_call 111; rw [show (n : Int) - (acc.length : Int) = (j : Int) by omega]; refine (u_ RR _).mono ?_; rintro e v2 ⟨rfl, hb2⟩)
         exact bodyPost_ret (v := bdV (List.replicate j 122 ++ acc, 0)) (by simp [results, Tryz.results89, go_sem, bdV]) rfl ⟨by rw [u_ HR3], below_nst (u_ HB1) hb2⟩
       rw [if_neg (by rintro (h | h); exact c1 h; exact c2 h)] at hpc
       have q1 : ((s[0].toNat : Int) == 120) = false := u8x c1
       have q2 : ((s[0].toNat : Int) == 122) = false := u8x c2
       have HR3 : Hid ((List.replicate j 48 ++ acc, 0) = R) := h_ (by rw [← hpc]; exact u_ HR2)
       have RR : Hid (∀ v, CB 111 #[.string ⟨#[48]⟩, .int .i64 j] v (.string (S (List.replicate j 48)))) := RP 48
       have eR := eRA 48
       have zz := zR 48
       clear hfit hlong hpc eRA zR RP c1 c2
       go_wp2_with (go_at_call 111; rw [show (n : Int) - (acc.length : Int) = (j : Int) by omega]; refine (u_ RR _).mono ?_; rintro e v2 ⟨rfl, hb2⟩)
       exact bodyPost_ret (v := bdV (List.replicate j 48 ++ acc, 0)) (by simp [results, Tryz.results89, go_sem, bdV]) rfl ⟨by rw [u_ HR3], below_nst (u_ HB1) hb2⟩
end Go.Proofs.YtddlokkejglckaaGreatDoor
namespace Go.Proofs.YtddlokkejglckaaGreatDoor
open Go.RowKit Nt
set_option linter.unusedVariables false
set_option maxRecDepth 100000
def txL (n : Nat) (T : List Tok) : List UInt8 := (T.zipIdx.map fun p => p.1 ++ [if p.1 = [59] ∨ p.2 + 1 = n then 10 else 32]).flatten
theorem txL_snoc (n : Nat) (K : List Tok) (t : Tok) : txL n (K ++ [t]) = txL n K ++ t ++ [if t = [59] ∨ K.length + 1 = n then 10 else 32] := by
 unfold txL
 rw [List.zipIdx_append]
 simp [List.append_assoc]
theorem txL_acc (n : Nat) : ∀ K : List Tok, K.length < n → txL n K = if K = [] then [] else accL K ++ [gapB (lastT K)] := by
 refine snocInd (fun _ => rfl) ?_
 intro K t ih hl
 have hl' : K.length + 1 < n := by simpa using hl
 have hne : K ++ [t] ≠ [] := by simp
 rw [txL_snoc, ih (by omega), if_neg hne, accL_snoc]
 have hlast : lastT (K ++ [t]) = t := by simp [lastT]
 have hg : (if t = [59] ∨ K.length + 1 = n then (10 : UInt8) else 32) = gapB t := by
   unfold gapB
   by_cases ht : t = [59]
   · rw [if_pos (.inl ht), if_pos ht]
   · rw [if_neg (by rintro (h | h); exact ht h; omega), if_neg ht]
 rw [hlast, hg]
 by_cases hK : K = []
 · subst hK; simp
 · rw [if_neg hK, if_neg hK]; simp
theorem txL_all (T : List Tok) : txL T.length T = textL T := by
 rcases List.eq_nil_or_concat T with h | ⟨K, t, h⟩
 · subst h; rfl
 · rw [List.concat_eq_append] at h
   subst h
   rw [txL_snoc, txL_acc _ K (by simp)]
   have hne : K ++ [t] ≠ [] := by simp
   unfold textL
   have hg : (if t = [59] ∨ K.length + 1 = (K ++ [t]).length then (10 : UInt8) else 32) = 10 := if_pos (.inr (by simp))
   rw [if_neg hne, accL_snoc, hg]
   by_cases hK : K = []
   · subst hK; simp
   · rw [if_neg hK, if_neg hK]; simp
theorem txL_next {T : List Tok} {j n : Nat} {t : Tok} (hT : T.length = n) (h : T[j]? = some t) : txL n (T.take (j + 1)) = txL n (T.take j) ++ t ++ [if t = [59] ∨ j + 1 = n then 10 else 32] := by
 have hj : j < T.length := (List.getElem?_eq_some_iff.1 h).1
 rw [List.take_add_one, h]
 show txL n (T.take j ++ [t]) = _
 rw [txL_snoc, List.length_take, Nat.min_eq_left (by omega)]
theorem txL_len (n : Nat) : ∀ T : List Tok, (txL n T).length = sizeT T := by
 refine snocInd rfl ?_
 intro K t ih
 rw [txL_snoc, sizeT_app]; simp [ih, sizeT]
theorem isF_start (w : World) : Lib.IsBuilderF 62 5 w.heap.size w.heap.size (Lib.byteCells []) (w.alloc (.cells #[.pointer none, .slice none 0 0] 62)) :=
 .inl ⟨Nat.le_refl _, .slice none 0 0, heap_alloc_new w _, World.ownsRowF_of (World.ownsRow_nil _ _ _ _), by simp [Value.ownBlock]⟩
set_option maxHeartbeats 800000 in
theorem iPText (pb : Nat) (T : List Tok) (ov : Value) (w : World) (hpi : Pi pb T ov w) (hz : sizeT T ≤ 1099511627776) :
   CB 16 #[.pointer (some ⟨pb, 0, none⟩)] w (.string (S (textL T))) := by
 obtain ⟨a, c, hv, hn, hc⟩ := hpi.get
 have c0 := hpi.c0
 have hpb := hpi.lt
 subst hv
 have HC := h_ hc
 have hl : T.length ≤ 1099511627776 := Nat.le_trans (len_sizeT T) hz
 have d0 := c_ (bal (brf w) (.cells #[.pointer none, .slice none 0 0] 62)) c0
 have IS := h_ (isF_start w)
 have IB := h_ (bal (brf w) (.cells #[.pointer none, .slice none 0 0] 62))
 clear hpi hc hn
 go_enter Tryz.func16, Tryz.ntmps16
 go_wp2
 go_loopw [11] (fun i wr => ∃ j : Nat, i = .int .i64 j ∧ j ≤ T.length ∧ Lib.IsBuilderF 62 5 w.heap.size w.heap.size (Lib.byteCells (txL T.length (T.take j))) wr ∧ Below w.heap.size w wr) (fun i wr => T.length - (intOf i).toNat)
 case atStart => exact ⟨0, rfl, Nat.zero_le _, u_ IS, u_ IB⟩
 case round =>
   obtain ⟨j, rfl, hj, hI, hbw⟩ := hrel
   by_cases hjn : j < T.length
   · have hx : T[j]? = some T[j] := List.getElem?_eq_getElem hjn
     generalize T[j] = t at hx
     obtain ⟨g, hg, _, hcell⟩ := u_ HC j t hx
     subst hg
     have hnx := txL_next rfl hx
     have hle := sizeT_take T (j + 1)
     have hlen := txL_len T.length (T.take (j + 1))
     have k0 := c_ hbw c0
     have k1 := c_ hbw hcell
     unfold tv at k1
     have hsz := hbw.size
     have hA : (Lib.byteCells (txL T.length (T.take j))).length + (S t).size ≤ 140737488355328 := by
       rw [Lib.byteCells_length, txL_len, S_size]
       have := sizeT_next hx
       omega
     have WS := h_ (Tryz.Builder_WriteString_k w.heap.size w.heap.size _ (S t) wr hI hA hsz)
     have HB := h_ hbw
     have HC1 := h_ hcell
     have HC0 := h_ c0
     have WB : Hid (∀ (W : World) (ch : UInt8), Lib.BuilderAtF 62 5 w.heap.size w.heap.size (.pointer (some ⟨w.heap.size, 0, none⟩)) (Lib.byteCells (txL T.length (T.take j)) ++ Lib.strCells (S t)) W → w.heap.size ≤ W.heap.size → Calls Tryz.prog 31 #[.pointer (some ⟨w.heap.size, 0, none⟩), .int .u8 ch.toNat] W fun e w' => e = .returned .nilIface ∧ Lib.IsBuilderF 62 5 w.heap.size w.heap.size (Lib.byteCells (txL T.length (T.take j) ++ t ++ [ch])) w' ∧ Below w.heap.size W w') := h_ (by
       intro W ch h1 h2
       have hl2 : (Lib.byteCells (txL T.length (T.take j)) ++ Lib.strCells (S t)).length + 1 ≤ 140737488355328 := by
         rw [strCells_S, ← Lib.byteCells_append, Lib.byteCells_length, List.length_append, txL_len]
         have := sizeT_next hx
         omega
       refine (Tryz.Builder_WriteByte_k w.heap.size w.heap.size _ _ W (.inr h1) hl2 h2).mono ?_
       rintro e w' ⟨rfl, h3, h4, _⟩
       refine ⟨rfl, .inr ?_, h4⟩
       rw [Lib.byteCells_append, Lib.byteCells_append, ← strCells_S t]
       exact h3)
     clear hI hbw hA hcell hlen
     by_cases ht : t = [59]
     · rw [if_pos (.inl ht)] at hnx
       have HNX := h_ hnx
       have he : ((S t).toList == [59]) = true := by rw [toLL, L_S, ht]; rfl
       have WB2 : Hid (∀ (W : World), _) := h_ (fun W => u_ WB W 10)
       clear hnx WB hle ht
       go_wp2_with (first
         | (go_at_call 31; refine (u_ WB2 _ (u_ HW1) hsz1).mono ?_; rintro e w2 ⟨rfl, h2, b2⟩; have HW2 := h_ h2; have HB2 := h_ ((u_ HB1).trans b2); clear h2 b2)
         | (go_at_call 30; refine (u_ WS).mono ?_; rintro e w1 ⟨rfl, h1, b1, _⟩; have HW1 := h_ h1; have hbb := (u_ HB).trans b1; have HB1 := h_ hbb; have hsz1 := hbb.size; have k0b := c_ hbb (u_ HC0); have k1b := c_ hbb (u_ HC1); clear h1 b1 hbb))
       exact ⟨⟨j + 1, by go_num, by omega, by rw [u_ HNX]; exact u_ HW2, u_ HB2⟩, by simp [intOf]; omega⟩
     · have he : ((S t).toList == [59]) = false := by rw [toLL, L_S]; exact beq_eq_false_iff_ne.2 ht
       by_cases hj1 : j + 1 = T.length
       · rw [if_pos (.inr hj1)] at hnx
         have HNX := h_ hnx
         have hq : ((j : Int) == (T.length : Int) - 1) = true := by rw [beq_iff_eq]; omega
         have WB2 : Hid (∀ (W : World), _) := h_ (fun W => u_ WB W 10)
         clear hnx WB hle ht
         go_wp2_with (first
           | (go_at_call 31; refine (u_ WB2 _ (u_ HW1) hsz1).mono ?_; rintro e w2 ⟨rfl, h2, b2⟩; have HW2 := h_ h2; have HB2 := h_ ((u_ HB1).trans b2); clear h2 b2)
           | (go_at_call 30; refine (u_ WS).mono ?_; rintro e w1 ⟨rfl, h1, b1, _⟩; have HW1 := h_ h1; have hbb := (u_ HB).trans b1; have HB1 := h_ hbb; have hsz1 := hbb.size; have k0b := c_ hbb (u_ HC0); have k1b := c_ hbb (u_ HC1); clear h1 b1 hbb))
         exact ⟨⟨j + 1, by go_num, by omega, by rw [u_ HNX]; exact u_ HW2, u_ HB2⟩, by simp [intOf]; omega⟩
       · rw [if_neg (by rintro (h | h); exact ht h; exact hj1 h)] at hnx
         have HNX := h_ hnx
         have hq : ((j : Int) == (T.length : Int) - 1) = false := by rw [beq_eq_false_iff_ne]; omega
         have WB2 : Hid (∀ (W : World), _) := h_ (fun W => u_ WB W 32)
         clear hnx WB hle ht
         go_wp2_with (first
           | (go_at_call 31; refine (u_ WB2 _ (u_ HW1) hsz1).mono ?_; rintro e w2 ⟨rfl, h2, b2⟩; have HW2 := h_ h2; have HB2 := h_ ((u_ HB1).trans b2); clear h2 b2)
           | (go_at_call 30; refine (u_ WS).mono ?_; rintro e w1 ⟨rfl, h1, b1, _⟩; have HW1 := h_ h1; have hbb := (u_ HB).trans b1; have HB1 := h_ hbb; have hsz1 := hbb.size; have k0b := c_ hbb (u_ HC0); have k1b := c_ hbb (u_ HC1); clear h1 b1 hbb))
         exact ⟨⟨j + 1, by go_num, by omega, by rw [u_ HNX]; exact u_ HW2, u_ HB2⟩, by simp [intOf]; omega⟩
   · obtain rfl : j = T.length := by omega
     rw [List.take_length, txL_all] at hI
     have HI := h_ hI
     have HB := h_ hbw
     have hsz := hbw.size
     clear hI hbw
     go_wp2_with (go_at_call 32; refine (iBStr w.heap.size w.heap.size _ _ (u_ HI) hsz).mono ?_; rintro e w1 ⟨rfl, b1⟩; have HB1 := h_ ((u_ HB).trans b1); clear b1)
     exact bodyPost_ret (v := .string (S (textL T))) (by simp [results, Tryz.results16, go_sem]) rfl ⟨rfl, u_ HB1⟩
def IpC (n : Nd) : Prop := ∀ (v : Value) (W0 w : World) (pb : Nat) (T : List Tok) (ov : Value), n.text.size ≤ maxLen → fm n = true → RdK W0 n.kids v → Below W0.heap.size W0 w → W0.heap.size ≤ pb → Pi pb T ov w → sizeT (T ++ tk n) ≤ 1099511627776 →
 Calls Tryz.prog 14 #[.pointer (some ⟨pb, 0, none⟩), ndV n v] w fun e w' => e = .returned (.pointer (some ⟨pb, 0, none⟩)) ∧ ∃ ov', Pi pb (T ++ tk n) ov' w' ∧ Pr pb ov ov' w w'
theorem belowI {W0 w w' : World} {pb : Nat} {T : List Tok} {v v' : Value} (hb : Below W0.heap.size W0 w) (hp : W0.heap.size ≤ pb) (hpi : Pi pb T v w) (hpr : Pr pb v v' w w') : Below W0.heap.size W0 w' :=
 hb.trans ((hpi.below hpr).mono hp)
structure Arr (pb M : Nat) (ts : List Tok) (ov : Value) (W : World) : Prop where
 cells : ∀ j t, ts[j]? = some t → W.cell? ⟨M, j, none⟩ = some (tv t)
 ne : M ≠ pb
 ap : ov.ownBlock ≠ some M
 lt : M < W.heap.size
theorem Arr.new {pb M : Nat} {T ts : List Tok} {ov : Value} {W : World} {cs : Array Value} (hpi : Pi pb T ov W) (hM : M = W.heap.size) (hc : cs = (ts.map tv).toArray) : Arr pb M ts ov (W.alloc (.cells cs 9)) := by
 subst hM hc
 refine ⟨fun j t ht => ?_, by have := hpi.lt; omega, hpi.new, by simp⟩
 rw [World.cell?_alloc_new]; simp [ht]
theorem Arr.alloc {pb M : Nat} {ts : List Tok} {ov : Value} {W : World} (h : Arr pb M ts ov W) (o : Obj) : Arr pb M ts ov (W.alloc o) :=
 ⟨fun j t ht => c_ (bal (brf W) o) (h.cells j t ht), h.ne, h.ap, Nat.lt_of_lt_of_le h.lt (by simp)⟩
theorem Arr.next {pb M : Nat} {ts : List Tok} {ov ov' : Value} {W W' : World} (hpr : Pr pb ov ov' W W') (h : Arr pb M ts ov W) : Arr pb M ts ov' W' :=
 ⟨fun j t ht => hpr.cell (h.cells j t ht) h.ne h.ap, h.ne, hpr.apart h.lt h.ap, Nat.lt_of_lt_of_le h.lt hpr.size⟩
theorem Arr.drew {pb M : Nat} {ts : List Tok} {ov : Value} {W : World} (h : Arr pb M ts ov W) : Arr pb M ts ov W.drew := ⟨h.cells, h.ne, h.ap, h.lt⟩
structure Sti (W0 : World) (pb kN : Nat) (n : Nd) (nv : Value) (w0 : World) (ov0 : Value) (T : List Tok) (ov : Value) (W : World) : Prop where
 b : Below W0.heap.size W0 W
 pi : Pi pb T ov W
 c0 : W.cell? ⟨kN, 0, none⟩ = some (.int .i64 n.kind)
 c1 : W.cell? ⟨kN, 1, none⟩ = some (.string n.text)
 c2 : W.cell? ⟨kN, 2, none⟩ = some nv
 ne : kN ≠ pb
 ap : ov.ownBlock ≠ some kN
 pr : Pr pb ov0 ov w0 W
theorem Sti.alloc {W0 : World} {pb kN : Nat} {n : Nd} {nv : Value} {w0 : World} {ov0 : Value} {T : List Tok} {ov : Value} {W : World} (h : Sti W0 pb kN n nv w0 ov0 T ov W) (o : Obj) : Sti W0 pb kN n nv w0 ov0 T ov (W.alloc o) :=
 ⟨h.b.alloc h.b.size o, h.pi.alloc o, c_ (bal (brf W) o) h.c0, c_ (bal (brf W) o) h.c1, c_ (bal (brf W) o) h.c2, h.ne, h.ap, h.pr.alloc o⟩
theorem Sti.drew {W0 : World} {pb kN : Nat} {n : Nd} {nv : Value} {w0 : World} {ov0 : Value} {T : List Tok} {ov : Value} {W : World} (h : Sti W0 pb kN n nv w0 ov0 T ov W) : Sti W0 pb kN n nv w0 ov0 T ov W.drew :=
 ⟨bdr h.b, h.pi.drew, h.c0, h.c1, h.c2, h.ne, h.ap, h.pr.drew⟩
theorem Sti.next {W0 : World} {pb kN : Nat} {n : Nd} {nv : Value} {w0 : World} {ov0 : Value} {T T' : List Tok} {ov ov' : Value} {W W' : World} (hp : W0.heap.size ≤ pb) (h : Sti W0 pb kN n nv w0 ov0 T ov W) (hpi : Pi pb T' ov' W') (hpr : Pr pb ov ov' W W') : Sti W0 pb kN n nv w0 ov0 T' ov' W' :=
 ⟨belowI h.b hp h.pi hpr, hpi, hpr.cell h.c0 h.ne h.ap, hpr.cell h.c1 h.ne h.ap, hpr.cell h.c2 h.ne h.ap, h.ne, hpr.apart (World.block_lt_of_cell? W _ h.c0) h.ap, h.pr.trans hpr⟩
theorem Sti.start {W0 : World} {pb : Nat} {n : Nd} {nv : Value} {T : List Tok} {ov : Value} {w : World} (hb : Below W0.heap.size W0 w) (hpi : Pi pb T ov w) (t : TypeId) : Sti W0 pb w.heap.size n nv w ov T ov (w.alloc (.cells #[.int .i64 n.kind, .string n.text, nv] t)) :=
 ⟨hb.alloc hb.size _, hpi.alloc _, by rw [World.cell?_alloc_new]; rfl, by rw [World.cell?_alloc_new]; rfl, by rw [World.cell?_alloc_new]; rfl, by have := hpi.lt; omega, hpi.new, Pr.ofAlloc pb ov w _⟩
theorem sti_put {W0 : World} {pb kN : Nat} {n : Nd} {nv : Value} {w0 : World} {ov0 : Value} {S : List Tok} (hp : W0.heap.size ≤ pb) (ts : List Tok) (hz : sizeT (S ++ ts) ≤ 1099511627776) (M c : Nat) (W : World) (ov : Value) (h : Sti W0 pb kN n nv w0 ov0 S ov W) (ha : Arr pb M ts ov W) :
   Calls Tryz.prog 39 #[.pointer (some ⟨pb, 0, none⟩), .slice (some ⟨M, 0, none⟩) ts.length c] W fun e w' => e = .returned (.pointer (some ⟨pb, 0, none⟩)) ∧ ∃ ov', Sti W0 pb kN n nv w0 ov0 (S ++ ts) ov' w' ∧ Pr pb ov ov' W w' := by
 have hl : S.length + ts.length ≤ 1099511627776 := by
   have := len_sizeT (S ++ ts); rw [List.length_append] at this; omega
 exact (iPut pb S ts ov M c W h.pi ha.cells hl).mono fun e w' ⟨he, ov', hpi, hpr⟩ => ⟨he, ov', h.next hp hpi hpr, hpr⟩
theorem sti_node {W0 : World} {pb kN : Nat} {n : Nd} {nv : Value} {w0 : World} {ov0 : Value} {S : List Tok} (hp : W0.heap.size ≤ pb) {x : Nd} (ih : IpC x) (hf : fm x = true) (ht : x.text.size ≤ maxLen) {v : Value} (hr : RdK W0 x.kids v) (hz : sizeT (S ++ tk x) ≤ 1099511627776) (W : World) (ov : Value) (h : Sti W0 pb kN n nv w0 ov0 S ov W) :
   Calls Tryz.prog 14 #[.pointer (some ⟨pb, 0, none⟩), .agg #[.int .i64 x.kind, .string x.text, v]] W fun e w' => e = .returned (.pointer (some ⟨pb, 0, none⟩)) ∧ ∃ ov', Sti W0 pb kN n nv w0 ov0 (S ++ tk x) ov' w' ∧ Pr pb ov ov' W w' :=
 (ih v W0 W pb S ov ht hf hr h.b hp h.pi hz).mono fun e w' ⟨he, ov', hpi, hpr⟩ => ⟨he, ov', h.next hp hpi hpr, hpr⟩
theorem Sti.allocDrew {W0 : World} {pb kN : Nat} {n : Nd} {nv : Value} {w0 : World} {ov0 : Value} {T : List Tok} {ov : Value} {W : World} (h : Sti W0 pb kN n nv w0 ov0 T ov W) (o : Obj) : Sti W0 pb kN n nv w0 ov0 T ov (W.alloc o).drew := (h.alloc o).drew
theorem Arr.allocDrew {pb M : Nat} {ts : List Tok} {ov : Value} {W : World} (h : Arr pb M ts ov W) (o : Obj) : Arr pb M ts ov (W.alloc o).drew := (h.alloc o).drew
theorem Arr.newDrew {pb M : Nat} {T ts : List Tok} {ov : Value} {W : World} {cs : Array Value} (hpi : Pi pb T ov W) (hM : M = W.heap.size) (hc : cs = (ts.map tv).toArray) : Arr pb M ts ov (W.alloc (.cells cs 9)).drew := (Arr.new hpi hM hc).drew
theorem keepI8 {V : World} {a b c d f g i j : Addr} {x y z u p q r s : Value} (h : V.cell? a = some x ∧ V.cell? b = some y ∧ V.cell? c = some z ∧ V.cell? d = some u ∧ V.cell? f = some p ∧ V.cell? g = some q ∧ V.cell? i = some r ∧ V.cell? j = some s) (o : Obj) :
   (V.alloc o).cell? a = some x ∧ (V.alloc o).cell? b = some y ∧ (V.alloc o).cell? c = some z ∧ (V.alloc o).cell? d = some u ∧ (V.alloc o).cell? f = some p ∧ (V.alloc o).cell? g = some q ∧ (V.alloc o).cell? i = some r ∧ (V.alloc o).cell? j = some s :=
 ⟨c_ (bal (brf V) o) h.1, c_ (bal (brf V) o) h.2.1, c_ (bal (brf V) o) h.2.2.1, c_ (bal (brf V) o) h.2.2.2.1, c_ (bal (brf V) o) h.2.2.2.2.1, c_ (bal (brf V) o) h.2.2.2.2.2.1, c_ (bal (brf V) o) h.2.2.2.2.2.2.1, c_ (bal (brf V) o) h.2.2.2.2.2.2.2⟩
theorem keepI8d {V : World} {a b c d f g i j : Addr} {x y z u p q r s : Value} (h : V.drew.cell? a = some x ∧ V.drew.cell? b = some y ∧ V.drew.cell? c = some z ∧ V.drew.cell? d = some u ∧ V.drew.cell? f = some p ∧ V.drew.cell? g = some q ∧ V.drew.cell? i = some r ∧ V.drew.cell? j = some s) (o : Obj) :
   (V.alloc o).drew.cell? a = some x ∧ (V.alloc o).drew.cell? b = some y ∧ (V.alloc o).drew.cell? c = some z ∧ (V.alloc o).drew.cell? d = some u ∧ (V.alloc o).drew.cell? f = some p ∧ (V.alloc o).drew.cell? g = some q ∧ (V.alloc o).drew.cell? i = some r ∧ (V.alloc o).drew.cell? j = some s :=
 ⟨keep1 h.1, keep1 h.2.1, keep1 h.2.2.1, keep1 h.2.2.2.1, keep1 h.2.2.2.2.1, keep1 h.2.2.2.2.2.1, keep1 h.2.2.2.2.2.2.1, keep1 h.2.2.2.2.2.2.2⟩
theorem stiS8 {W0 : World} {pb kN : Nat} {n : Nd} {nv : Value} {w0 : World} {ov0 : Value} {T : List Tok} {ov : Value} {W : World} {ntx : ByteArray} (h : Sti W0 pb kN n nv w0 ov0 T ov W) (hnt : n.text = ntx) {c d f g i j : Nat × Nat} {z u p q r s : Value} (h1 : W0.cell? ⟨c.1, c.2, none⟩ = some z) (h2 : W0.cell? ⟨d.1, d.2, none⟩ = some u) (h3 : W0.cell? ⟨f.1, f.2, none⟩ = some p) (h4 : W0.cell? ⟨g.1, g.2, none⟩ = some q) (h5 : W0.cell? ⟨i.1, i.2, none⟩ = some r) (h6 : W0.cell? ⟨j.1, j.2, none⟩ = some s) :
   W.cell? ⟨kN, 1, none⟩ = some (.string ntx) ∧ W.cell? ⟨kN, 2, none⟩ = some nv ∧ W.cell? ⟨c.1, c.2, none⟩ = some z ∧ W.cell? ⟨d.1, d.2, none⟩ = some u ∧ W.cell? ⟨f.1, f.2, none⟩ = some p ∧ W.cell? ⟨g.1, g.2, none⟩ = some q ∧ W.cell? ⟨i.1, i.2, none⟩ = some r ∧ W.cell? ⟨j.1, j.2, none⟩ = some s :=
 ⟨hnt ▸ h.c1, h.c2, c_ h.b h1, c_ h.b h2, c_ h.b h3, c_ h.b h4, c_ h.b h5, c_ h.b h6⟩
def Sx (W0 : World) (pb kN : Nat) (n : Nd) (nv : Value) (w0 : World) (ov0 : Value) (T : List Tok) (W : World) : Prop := ∃ ov, Sti W0 pb kN n nv w0 ov0 T ov W
theorem Sx.alloc {W0 : World} {pb kN : Nat} {n : Nd} {nv : Value} {w0 : World} {ov0 : Value} {T : List Tok} {W : World} (h : Sx W0 pb kN n nv w0 ov0 T W) (o : Obj) : Sx W0 pb kN n nv w0 ov0 T (W.alloc o) := by
 obtain ⟨ov, h⟩ := h; exact ⟨ov, h.alloc o⟩
theorem Sx.allocDrew {W0 : World} {pb kN : Nat} {n : Nd} {nv : Value} {w0 : World} {ov0 : Value} {T : List Tok} {W : World} (h : Sx W0 pb kN n nv w0 ov0 T W) (o : Obj) : Sx W0 pb kN n nv w0 ov0 T (W.alloc o).drew := by
 obtain ⟨ov, h⟩ := h; exact ⟨ov, h.allocDrew o⟩
def Px (pb : Nat) (W : World) : Prop := ∃ T ov, Pi pb T ov W
theorem Px.alloc {pb : Nat} {W : World} (h : Px pb W) (o : Obj) : Px pb (W.alloc o) := by obtain ⟨T, ov, h⟩ := h; exact ⟨T, ov, h.alloc o⟩
theorem Sx.px {W0 : World} {pb kN : Nat} {n : Nd} {nv : Value} {w0 : World} {ov0 : Value} {T : List Tok} {W : World} (h : Sx W0 pb kN n nv w0 ov0 T W) : Px pb W := by obtain ⟨ov, h⟩ := h; exact ⟨T, ov, h.pi⟩
def Ax (pb M : Nat) (ts : List Tok) (W : World) : Prop := pb < W.heap.size ∧ ∀ ov, W.cell? ⟨pb, 0, none⟩ = some ov → Arr pb M ts ov W
theorem Ax.new {pb M : Nat} {ts : List Tok} {W : World} {cs : Array Value} (hp : Px pb W) (hM : M = W.heap.size) (hc : cs = (ts.map tv).toArray) : Ax pb M ts (W.alloc (.cells cs 9)) := by
 obtain ⟨T, ov, h⟩ := hp
 refine ⟨Nat.lt_of_lt_of_le h.lt (by simp), fun ov' h' => ?_⟩
 have : ov' = ov := Option.some.inj (h'.symm.trans (h.alloc _).c0)
 subst this
 exact Arr.new h hM hc
theorem Ax.alloc {pb M : Nat} {ts : List Tok} {W : World} (h : Ax pb M ts W) (o : Obj) : Ax pb M ts (W.alloc o) := by
 refine ⟨Nat.lt_of_lt_of_le h.1 (by simp), fun ov' h' => ?_⟩
 have : W.cell? ⟨pb, 0, none⟩ = some ov' := by rw [← h']; exact ((bal (brf W) o).cell (p := ⟨pb, 0, none⟩) h.1).symm
 exact (h.2 ov' this).alloc o
theorem Ax.drew {pb M : Nat} {ts : List Tok} {W : World} (h : Ax pb M ts W) : Ax pb M ts W.drew := ⟨h.1, fun ov h' => (h.2 ov h').drew⟩
theorem Ax.allocDrew {pb M : Nat} {ts : List Tok} {W : World} (h : Ax pb M ts W) (o : Obj) : Ax pb M ts (W.alloc o).drew := (h.alloc o).drew
theorem Ax.newDrew {pb M : Nat} {ts : List Tok} {W : World} {cs : Array Value} (hp : Px pb W) (hM : M = W.heap.size) (hc : cs = (ts.map tv).toArray) : Ax pb M ts (W.alloc (.cells cs 9)).drew := (Ax.new hp hM hc).drew
def Nx (pb : Nat) (W W' : World) : Prop := ∃ ov ov', W.cell? ⟨pb, 0, none⟩ = some ov ∧ W'.cell? ⟨pb, 0, none⟩ = some ov' ∧ Pr pb ov ov' W W'
theorem Ax.next {pb M : Nat} {ts : List Tok} {W W' : World} (hn : Nx pb W W') (h : Ax pb M ts W) : Ax pb M ts W' := by
 obtain ⟨ov, ov', h1, h2, h3⟩ := hn
 refine ⟨Nat.lt_of_lt_of_le h.1 h3.size, fun ov2 h' => ?_⟩
 have : ov2 = ov' := Option.some.inj (h'.symm.trans h2)
 subst this
 exact Arr.next h3 (h.2 ov h1)
theorem sx_put {W0 : World} {pb kN : Nat} {n : Nd} {nv : Value} {w0 : World} {ov0 : Value} {S : List Tok} (hp : W0.heap.size ≤ pb) (ts : List Tok) (hz : sizeT (S ++ ts) ≤ 1099511627776) (M c : Nat) (W : World) (h : Sx W0 pb kN n nv w0 ov0 S W) (ha : Ax pb M ts W) :
   Calls Tryz.prog 39 #[.pointer (some ⟨pb, 0, none⟩), .slice (some ⟨M, 0, none⟩) ts.length c] W fun e w' => e = .returned (.pointer (some ⟨pb, 0, none⟩)) ∧ Sx W0 pb kN n nv w0 ov0 (S ++ ts) w' ∧ Nx pb W w' := by
 obtain ⟨ov, h⟩ := h
 exact (sti_put hp ts hz M c W ov h (ha.2 ov h.pi.c0)).mono fun e w' ⟨he, ov', hs, hpr⟩ => ⟨he, ⟨ov', hs⟩, ov, ov', h.pi.c0, hs.pi.c0, hpr⟩
theorem sx_putN {W0 : World} {pb kN : Nat} {n : Nd} {nv : Value} {w0 : World} {ov0 : Value} {S : List Tok} (hp : W0.heap.size ≤ pb) (ts : List Tok) (N : Nat) (hN : ts.length = N) (hz : sizeT (S ++ ts) ≤ 1099511627776) (M c : Nat) (W : World) (h : Sx W0 pb kN n nv w0 ov0 S W) (ha : Ax pb M ts W) :
   Calls Tryz.prog 39 #[.pointer (some ⟨pb, 0, none⟩), .slice (some ⟨M, 0, none⟩) N c] W fun e w' => e = .returned (.pointer (some ⟨pb, 0, none⟩)) ∧ Sx W0 pb kN n nv w0 ov0 (S ++ ts) w' ∧ Nx pb W w' := by
 subst hN; exact sx_put hp ts hz M c W h ha
theorem sx_node {W0 : World} {pb kN : Nat} {n : Nd} {nv : Value} {w0 : World} {ov0 : Value} {S : List Tok} (hp : W0.heap.size ≤ pb) {x : Nd} (ih : IpC x) (hf : fm x = true) (ht : x.text.size ≤ maxLen) {v : Value} (hr : RdK W0 x.kids v) (hz : sizeT (S ++ tk x) ≤ 1099511627776) (W : World) (h : Sx W0 pb kN n nv w0 ov0 S W) :
   Calls Tryz.prog 14 #[.pointer (some ⟨pb, 0, none⟩), .agg #[.int .i64 x.kind, .string x.text, v]] W fun e w' => e = .returned (.pointer (some ⟨pb, 0, none⟩)) ∧ Sx W0 pb kN n nv w0 ov0 (S ++ tk x) w' ∧ Nx pb W w' := by
 obtain ⟨ov, h⟩ := h
 exact (sti_node hp ih hf ht hr hz W ov h).mono fun e w' ⟨he, ov', hs, hpr⟩ => ⟨he, ⟨ov', hs⟩, ov, ov', h.pi.c0, hs.pi.c0, hpr⟩
theorem sxS8 {W0 : World} {pb kN : Nat} {n : Nd} {nv : Value} {w0 : World} {ov0 : Value} {T : List Tok} {W : World} {ntx : ByteArray} (h : Sx W0 pb kN n nv w0 ov0 T W) (hnt : n.text = ntx) {c d f g i j : Nat × Nat} {z u p q r s : Value} (h1 : W0.cell? ⟨c.1, c.2, none⟩ = some z) (h2 : W0.cell? ⟨d.1, d.2, none⟩ = some u) (h3 : W0.cell? ⟨f.1, f.2, none⟩ = some p) (h4 : W0.cell? ⟨g.1, g.2, none⟩ = some q) (h5 : W0.cell? ⟨i.1, i.2, none⟩ = some r) (h6 : W0.cell? ⟨j.1, j.2, none⟩ = some s) :
   W.cell? ⟨kN, 1, none⟩ = some (.string ntx) ∧ W.cell? ⟨kN, 2, none⟩ = some nv ∧ W.cell? ⟨c.1, c.2, none⟩ = some z ∧ W.cell? ⟨d.1, d.2, none⟩ = some u ∧ W.cell? ⟨f.1, f.2, none⟩ = some p ∧ W.cell? ⟨g.1, g.2, none⟩ = some q ∧ W.cell? ⟨i.1, i.2, none⟩ = some r ∧ W.cell? ⟨j.1, j.2, none⟩ = some s := by
 obtain ⟨ov, h⟩ := h; exact stiS8 h hnt h1 h2 h3 h4 h5 h6
def Kx (W0 : World) (pb kN : Nat) (n : Nd) (nv : Value) (w0 : World) (ov0 : Value) (W : World) : Prop := ∃ T, Sx W0 pb kN n nv w0 ov0 T W
theorem Kx.of {W0 : World} {pb kN : Nat} {n : Nd} {nv : Value} {w0 : World} {ov0 : Value} {T : List Tok} {W : World} (h : Sx W0 pb kN n nv w0 ov0 T W) : Kx W0 pb kN n nv w0 ov0 W := ⟨T, h⟩
theorem Kx.px {W0 : World} {pb kN : Nat} {n : Nd} {nv : Value} {w0 : World} {ov0 : Value} {W : World} (h : Kx W0 pb kN n nv w0 ov0 W) : Px pb W := by obtain ⟨T, h⟩ := h; exact h.px
theorem Kx.drew {W0 : World} {pb kN : Nat} {n : Nd} {nv : Value} {w0 : World} {ov0 : Value} {W : World} (h : Kx W0 pb kN n nv w0 ov0 W) : Kx W0 pb kN n nv w0 ov0 W.drew := by obtain ⟨T, ov, h⟩ := h; exact ⟨T, ov, h.drew⟩
theorem kxS8 {W0 : World} {pb kN : Nat} {n : Nd} {nv : Value} {w0 : World} {ov0 : Value} {W : World} {ntx : ByteArray} (hnt : n.text = ntx) {c d f g i j : Nat × Nat} {z u p q r s : Value} (h1 : W0.cell? ⟨c.1, c.2, none⟩ = some z) (h2 : W0.cell? ⟨d.1, d.2, none⟩ = some u) (h3 : W0.cell? ⟨f.1, f.2, none⟩ = some p) (h4 : W0.cell? ⟨g.1, g.2, none⟩ = some q) (h5 : W0.cell? ⟨i.1, i.2, none⟩ = some r) (h6 : W0.cell? ⟨j.1, j.2, none⟩ = some s) (h : Kx W0 pb kN n nv w0 ov0 W) :
   W.cell? ⟨kN, 1, none⟩ = some (.string ntx) ∧ W.cell? ⟨kN, 2, none⟩ = some nv ∧ W.cell? ⟨c.1, c.2, none⟩ = some z ∧ W.cell? ⟨d.1, d.2, none⟩ = some u ∧ W.cell? ⟨f.1, f.2, none⟩ = some p ∧ W.cell? ⟨g.1, g.2, none⟩ = some q ∧ W.cell? ⟨i.1, i.2, none⟩ = some r ∧ W.cell? ⟨j.1, j.2, none⟩ = some s := by
 obtain ⟨T, h⟩ := h; exact sxS8 h hnt h1 h2 h3 h4 h5 h6
set_option maxHeartbeats 800000
theorem iNodes (ks : List Nd) (ih : ∀ x ∈ ks, IpC x) (hf : ∀ x ∈ ks, fm x = true) (v : Value) (W0 w : World) (pb : Nat) (T : List Tok) (ov : Value) (hr : RdK W0 ks v) (hb : Below W0.heap.size W0 w) (hp : W0.heap.size ≤ pb) (hpi : Pi pb T ov w) (hz : sizeT (T ++ joinT [] (ks.map tk)) ≤ 1099511627776) :
   Calls Tryz.prog 43 #[.pointer (some ⟨pb, 0, none⟩), v] w fun e w' => e = .returned (.pointer (some ⟨pb, 0, none⟩)) ∧ ∃ ov', Pi pb (T ++ joinT [] (ks.map tk)) ov' w' ∧ Pr pb ov ov' w w' := by
 have HP := h_ ih
 have HF := h_ hf
 have HR := h_ hr
 have HPI := h_ hpi
 have HB := h_ hb
 have hl := len_okP hr
 obtain ⟨a0, c0, rfl⟩ := RdK_slice hr
 clear ih hf hr hpi hb
 go_enter Tryz.func43, Tryz.ntmps43
 go_wp2
 go_loopw [9] (fun i wr => ∃ (j : Nat) (ovj : Value), i = .int .i64 j ∧ j ≤ ks.length ∧ Pi pb (T ++ joinT [] ((ks.take j).map tk)) ovj wr ∧ Pr pb ov ovj w wr) (fun i wr => ks.length - (intOf i).toNat)
 case atStart => exact ⟨0, ov, rfl, Nat.zero_le _, by have : joinT [] ((ks.take 0).map tk) = [] := rfl
                                                      rw [this, List.append_nil]; exact u_ HPI, Pr.refl _ _ _⟩
 case round =>
   obtain ⟨j, ovj, rfl, hj, hpij, hprj⟩ := hrel
   have HPJ := h_ hpij
   have HPRJ := h_ hprj
   by_cases hjn : j < ks.length
   · have hx : ks[j]? = some ks[j] := List.getElem?_eq_getElem hjn
     generalize ks[j] = x at hx
     have hnx := joinT_next [] hx
     have hbr := belowI (u_ HB) hp (u_ HPI) hprj
     have hz2 : sizeT (T ++ joinT [] ((ks.take (j + 1)).map tk)) ≤ 1099511627776 := by
       have := joinT_take [] (ks.map tk) (j + 1)
       rw [← List.map_take] at this
       rw [sizeT_app] at hz ⊢
       omega
     rw [hnx, ← List.append_assoc] at hz2
     rcases RdK_cases (u_ HR) with ⟨h0, _⟩ | ⟨b, o, c', vs, hvv, hn, hcs⟩
     · rw [h0] at hjn; simp at hjn
     obtain ⟨k1, k2, k3, hts, hk⟩ := hcs j x hx
     obtain ⟨ha0, hc0⟩ : a0 = some ⟨b, o, none⟩ ∧ c0 = c' := by injection hvv with h1 h2 h3; exact ⟨h1, h3⟩
     subst ha0 hc0
     obtain ⟨a', c'', hv'⟩ := RdK_slice hk
     rw [hv'] at k3 hk
     have IHX : Hid (∀ (wy : World) (Ty : List Tok) (ovy : Value), Below W0.heap.size W0 wy → Pi pb Ty ovy wy → sizeT (Ty ++ tk x) ≤ 1099511627776 → Calls Tryz.prog 14 #[.pointer (some ⟨pb, 0, none⟩), .agg #[.int .i64 x.kind, .string x.text, .slice a' x.kids.length c'']] wy fun e w' => e = .returned (.pointer (some ⟨pb, 0, none⟩)) ∧ ∃ ov', Pi pb (Ty ++ tk x) ov' w' ∧ Pr pb ovy ov' wy w') := h_ (fun wy Ty ovy hby hpiy hzy => u_ HP x (List.mem_of_getElem? hx) _ W0 wy pb Ty ovy hts (u_ HF x (List.mem_of_getElem? hx)) hk hby hp hpiy hzy)
     have k1' := c_ hbr k1
     have k2' := c_ hbr k2
     have k3' := c_ hbr k3
     have HBR := h_ hbr
     clear hpij hprj hbr hcs hvv hk
     · rw [if_neg (by simp), List.nil_append] at hnx hz2
       have HNX := h_ hnx
       have HZ2 := h_ hz2
       clear hnx hz2
       generalize x.kind = yk at *
       generalize x.text = yt at *
       go_wp2_with (go_at_call 14; refine (u_ IHX _ _ _ ((u_ HBR).alloc (u_ HBR).size _) ((u_ HPJ).alloc _) (u_ HZ2)).mono ?_; rintro e w2 ⟨rfl, ov2, hpi2, hpr2⟩)
       refine ⟨⟨j + 1, ov2, by go_num, by omega, ?_, ((u_ HPRJ).alloc _).trans hpr2⟩, by simp [intOf]; omega⟩
       rw [u_ HNX]; simpa [List.append_assoc] using hpi2
   · obtain rfl : j = ks.length := by omega
     rw [List.take_length] at HPJ
     clear hpij hprj
     go_wp2
     exact bodyPost_ret (v := .pointer (some ⟨pb, 0, none⟩)) (by simp [results, Tryz.results43, go_sem]) rfl ⟨rfl, ovj, u_ HPJ, u_ HPRJ⟩
theorem iCommas (ks : List Nd) (ih : ∀ x ∈ ks, IpC x) (hf : ∀ x ∈ ks, fm x = true) (v : Value) (W0 w : World) (pb : Nat) (T : List Tok) (ov : Value) (hr : RdK W0 ks v) (hb : Below W0.heap.size W0 w) (hp : W0.heap.size ≤ pb) (hpi : Pi pb T ov w) (hz : sizeT (T ++ joinT [44] (ks.map tk)) ≤ 1099511627776) :
   Calls Tryz.prog 41 #[.pointer (some ⟨pb, 0, none⟩), v] w fun e w' => e = .returned (.pointer (some ⟨pb, 0, none⟩)) ∧ ∃ ov', Pi pb (T ++ joinT [44] (ks.map tk)) ov' w' ∧ Pr pb ov ov' w w' := by
 have HP := h_ ih
 have HF := h_ hf
 have HR := h_ hr
 have HPI := h_ hpi
 have HB := h_ hb
 have hl := len_okP hr
 obtain ⟨a0, c0, rfl⟩ := RdK_slice hr
 clear ih hf hr hpi hb
 go_enter Tryz.func41, Tryz.ntmps41
 go_wp2
 go_loopw [9] (fun i wr => ∃ (j : Nat) (ovj : Value), i = .int .i64 j ∧ j ≤ ks.length ∧ Pi pb (T ++ joinT [44] ((ks.take j).map tk)) ovj wr ∧ Pr pb ov ovj w wr) (fun i wr => ks.length - (intOf i).toNat)
 case atStart => exact ⟨0, ov, rfl, Nat.zero_le _, by have : joinT [44] ((ks.take 0).map tk) = [] := rfl
                                                      rw [this, List.append_nil]; exact u_ HPI, Pr.refl _ _ _⟩
 case round =>
   obtain ⟨j, ovj, rfl, hj, hpij, hprj⟩ := hrel
   have HPJ := h_ hpij
   have HPRJ := h_ hprj
   by_cases hjn : j < ks.length
   · have hx : ks[j]? = some ks[j] := List.getElem?_eq_getElem hjn
     generalize ks[j] = x at hx
     have hnx := joinT_next [44] hx
     have hbr := belowI (u_ HB) hp (u_ HPI) hprj
     have hz2 : sizeT (T ++ joinT [44] ((ks.take (j + 1)).map tk)) ≤ 1099511627776 := by
       have := joinT_take [44] (ks.map tk) (j + 1)
       rw [← List.map_take] at this
       rw [sizeT_app] at hz ⊢
       omega
     rw [hnx, ← List.append_assoc] at hz2
     rcases RdK_cases (u_ HR) with ⟨h0, _⟩ | ⟨b, o, c', vs, hvv, hn, hcs⟩
     · rw [h0] at hjn; simp at hjn
     obtain ⟨k1, k2, k3, hts, hk⟩ := hcs j x hx
     obtain ⟨ha0, hc0⟩ : a0 = some ⟨b, o, none⟩ ∧ c0 = c' := by injection hvv with h1 h2 h3; exact ⟨h1, h3⟩
     subst ha0 hc0
     obtain ⟨a', c'', hv'⟩ := RdK_slice hk
     rw [hv'] at k3 hk
     have IHX : Hid (∀ (wy : World) (Ty : List Tok) (ovy : Value), Below W0.heap.size W0 wy → Pi pb Ty ovy wy → sizeT (Ty ++ tk x) ≤ 1099511627776 → Calls Tryz.prog 14 #[.pointer (some ⟨pb, 0, none⟩), .agg #[.int .i64 x.kind, .string x.text, .slice a' x.kids.length c'']] wy fun e w' => e = .returned (.pointer (some ⟨pb, 0, none⟩)) ∧ ∃ ov', Pi pb (Ty ++ tk x) ov' w' ∧ Pr pb ovy ov' wy w') := h_ (fun wy Ty ovy hby hpiy hzy => u_ HP x (List.mem_of_getElem? hx) _ W0 wy pb Ty ovy hts (u_ HF x (List.mem_of_getElem? hx)) hk hby hp hpiy hzy)
     have k1' := c_ hbr k1
     have k2' := c_ hbr k2
     have k3' := c_ hbr k3
     have HBR := h_ hbr
     clear hpij hprj hbr hcs hvv hk
     by_cases h0 : 0 < j
     · have h0' : (0 : Int) < (j : Int) := by omega
       rw [if_pos ⟨h0, by decide⟩] at hnx hz2
       have HNX := h_ hnx
       have HZ4 : Hid (sizeT (T ++ joinT [44] ((ks.take j).map tk) ++ [[44]] ++ tk x) ≤ 1099511627776) := h_ (by rw [← List.append_assoc] at hz2; exact hz2)
       have hz3 : (T ++ joinT [44] ((ks.take j).map tk)).length + ([[44]] : List Tok).length ≤ 1099511627776 := by
         have := len_sizeT (T ++ joinT [44] ((ks.take j).map tk) ++ [[44]])
         rw [List.length_append] at this
         have h4 := u_ HZ4
         rw [sizeT_app] at h4
         omega
       have PU := h_ (fun (W : World) (ovy : Value) (M c9 : Nat) (h1 : Pi pb (T ++ joinT [44] ((ks.take j).map tk)) ovy W) (h2 : Arr pb M [[44]] ovy W) => iPut pb _ [[44]] ovy M c9 W h1 h2.cells hz3)
       clear hnx hz2 hz3
       generalize x.kind = yk at *
       generalize x.text = yt at *
       have hP1 := (u_ HPJ).alloc (Obj.cells #[Value.int IntKind.i64 yk, Value.string yt, Value.slice a' x.kids.length c''] 30)
       have hA1 := Arr.new (M := wr.heap.size + 1) (ts := [[44]]) (cs := #[Value.string ⟨#[44]⟩]) hP1 (by simp) rfl
       have hP2 := hP1.alloc (Obj.cells #[Value.string ⟨#[44]⟩] 9)
       have hB2 := ((u_ HBR).alloc (u_ HBR).size (Obj.cells #[Value.int IntKind.i64 yk, Value.string yt, Value.slice a' x.kids.length c''] 30)).alloc (by have := (u_ HBR).size; simp; omega) (Obj.cells #[Value.string ⟨#[44]⟩] 9)
       have hx0 : ((wr.alloc (Obj.cells #[Value.int IntKind.i64 yk, Value.string yt, Value.slice a' x.kids.length c''] 30)).alloc (Obj.cells #[Value.string ⟨#[44]⟩] 9)).cell? ⟨wr.heap.size, 0, none⟩ = some (.int .i64 yk) := c_ (bal (brf _) _) (by rw [World.cell?_alloc_new]; rfl)
       have hx1 : ((wr.alloc (Obj.cells #[Value.int IntKind.i64 yk, Value.string yt, Value.slice a' x.kids.length c''] 30)).alloc (Obj.cells #[Value.string ⟨#[44]⟩] 9)).cell? ⟨wr.heap.size, 1, none⟩ = some (.string yt) := c_ (bal (brf _) _) (by rw [World.cell?_alloc_new]; rfl)
       have hx2 : ((wr.alloc (Obj.cells #[Value.int IntKind.i64 yk, Value.string yt, Value.slice a' x.kids.length c''] 30)).alloc (Obj.cells #[Value.string ⟨#[44]⟩] 9)).cell? ⟨wr.heap.size, 2, none⟩ = some (.slice a' x.kids.length c'') := c_ (bal (brf _) _) (by rw [World.cell?_alloc_new]; rfl)
       have hne : wr.heap.size ≠ pb := by have := (u_ HPJ).lt; omega
       have hap := (u_ HPJ).new
       have HP2 := h_ hP2
       have HA1 := h_ hA1
       have HB2 := h_ hB2
       have HX0 := h_ hx0
       have HX1 := h_ hx1
       have HX2 := h_ hx2
       have HNE := h_ hne
       have HAP := h_ hap
       clear hP1 hA1 hP2 hB2 hx0 hx1 hx2 hne hap
       go_wp2_with (first
         | (go_at_call 14; refine (u_ IHX _ _ _ b1 hpi1 (u_ HZ4)).mono ?_; rintro e w2 ⟨rfl, ov2, hpi2, hpr2⟩)
         | (go_at_call 39; refine (u_ PU _ _ _ _ (u_ HP2) (u_ HA1)).mono ?_; rintro e w1 ⟨rfl, ov1, hpi1, hpr1⟩; have b1 := belowI (u_ HB2) hp (u_ HP2) hpr1; have e0 := hpr1.cell (u_ HX0) (u_ HNE) (u_ HAP); have e1 := hpr1.cell (u_ HX1) (u_ HNE) (u_ HAP); have e2 := hpr1.cell (u_ HX2) (u_ HNE) (u_ HAP)))
       refine ⟨⟨j + 1, ov2, by go_num, by omega, ?_, (((u_ HPRJ).alloc _).alloc _).trans (hpr1.trans hpr2)⟩, by simp [intOf]; omega⟩
       rw [u_ HNX]; simpa [List.append_assoc] using hpi2
     · have h0' : ¬ ((0 : Int) < (j : Int)) := by omega
       rw [if_neg (fun h => h0 h.1), List.nil_append] at hnx hz2
       have HNX := h_ hnx
       have HZ2 := h_ hz2
       clear hnx hz2
       generalize x.kind = yk at *
       generalize x.text = yt at *
       go_wp2_with (go_at_call 14; refine (u_ IHX _ _ _ ((u_ HBR).alloc (u_ HBR).size _) ((u_ HPJ).alloc _) (u_ HZ2)).mono ?_; rintro e w2 ⟨rfl, ov2, hpi2, hpr2⟩)
       refine ⟨⟨j + 1, ov2, by go_num, by omega, ?_, ((u_ HPRJ).alloc _).trans hpr2⟩, by simp [intOf]; omega⟩
       rw [u_ HNX]; simpa [List.append_assoc] using hpi2
   · obtain rfl : j = ks.length := by omega
     rw [List.take_length] at HPJ
     clear hpij hprj
     go_wp2
     exact bodyPost_ret (v := .pointer (some ⟨pb, 0, none⟩)) (by simp [results, Tryz.results41, go_sem]) rfl ⟨rfl, ovj, u_ HPJ, u_ HPRJ⟩
end Go.Proofs.YtddlokkejglckaaGreatDoor
