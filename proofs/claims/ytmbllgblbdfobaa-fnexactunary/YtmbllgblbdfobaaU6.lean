/- What the program's Unary answers: as the specification's. -/
import Derived.Test.YtmbllgblbdfobaaUP
import Derived.Test.YtmbllgblbdfobaaU5
namespace Go.Proofs.Ytmbllgblbdfobaa
open Go.RowKit
set_option maxRecDepth 100000 in
set_option maxHeartbeats 400000 in
theorem iUnary19 (s : ByteArray) (w : World) (hs : s.size ≤ maxLen) (hv : Vb.okV (L s) = true) :
    Calls Try.prog 21 #[.int .i64 19, .string s] w fun e w' => e = .returned (.string (S (unL 19 (L s)))) ∧ Below w.heap.size w w' := by
  obtain ⟨h1, h2, h3⟩ := (okV_iff s).1 hv
  have hr : Vb.txt s.size ((Vb.kn (L s)) &&& (Vb.wh (L s)) ||| (Vb.kn (L s)) &&& ~~~(Vb.wh (L s))) ((Vb.kn (L s)) &&& ~~~(Vb.wh (L s))) = unL 19 (L s) := by
    have := not_txt h3 (by rw [L_len]; exact h2); rw [L_len] at this; exact this
  have HV := hide hv
  clear hv h3
  have hix : ∀ w, (Instr.index 76 (.agg uTab) (.int .i64 19)).run Try.prog w = .ok (.func (.func 103) #[] #[]) w := fun _ => by kernel_rfl
  generalize hK : Vb.kn (L s) = K at *
  generalize hH : Vb.wh (L s) = H at *
  have HK := hide hK
  have HH := hide hH
  clear hK hH
  generalize hA : (K &&& H ||| K &&& ~~~H) = A at hr
  generalize hB : (K &&& ~~~H) = B at hr
  have HR := hide hr
  have HA := hide hA
  have HB := hide hB
  clear hr hA hB
  go_enter Try.func21, Try.ntmps21
  go_wp2_with fail
  refine (iVecOf s _ hs (unhide HV)).mono ?_
  rw [unhide HK, unhide HH]
  rintro e w1 ⟨rfl, hb1⟩
  unfold V
  go_wp2_with fail
  go_region_held3 (fun w' => w'.cell? ⟨w1.heap.size, 0, none⟩ = some (.int .i64 s.size) ∧ w'.cell? ⟨w1.heap.size, 1, none⟩ = some (.int .u64 (U K)) ∧ w'.cell? ⟨w1.heap.size, 2, none⟩ = some (.int .u64 (U H))) (first | (go_simp; done) | (refine ⟨?_, ?_, ?_⟩ <;> (refine cell_later hb ?_; go_simp)) | go_keep) (first | (go_at_call 55; refine (iUnaryOps _).mono ?_; rintro e w2 ⟨rfl, hb⟩; have hbA := hb) | (go_at_call 103; refine (iNot _ _ _ _).mono ?_; rw [unhide HA, unhide HB]; rintro e w3 ⟨rfl, hb⟩; have hbB := hb; unfold V) | (go_at_call 54; refine (iText _ _ _ h2 _).mono ?_; rw [unhide HR]; rintro e w4 ⟨rfl, hb⟩; have hbC := hb))
  go_wp2
  go_ret
  exact ⟨rfl, btr (btr (btr (bdr (bal hb1 _)) hbA) hbB) hbC⟩
set_option maxRecDepth 100000 in
set_option maxHeartbeats 400000 in
theorem iUnary20 (s : ByteArray) (w : World) (hs : s.size ≤ maxLen) (hv : Vb.okV (L s) = true) :
    Calls Try.prog 21 #[.int .i64 20, .string s] w fun e w' => e = .returned (.string (S (unL 20 (L s)))) ∧ Below w.heap.size w w' := by
  obtain ⟨h1, h2, h3⟩ := (okV_iff s).1 hv
  have hr : Vb.txt s.size (rkK s.size s.size (Vb.ones s.size) (Vb.kn (L s))) (rkH s.size s.size (Vb.ones s.size) (Vb.kn (L s)) (0#64 - (Vb.wh (L s)))) = unL 20 (L s) := by
    have := neg_txt (l := L s) (by rw [L_len]; exact h2); rw [L_len] at this; unfold unL; rw [if_neg (by decide), if_pos rfl, L_len]; exact this
  have HV := hide hv
  clear hv h3
  have hix : ∀ w, (Instr.index 76 (.agg uTab) (.int .i64 20)).run Try.prog w = .ok (.func (.func 104) #[] #[]) w := fun _ => by kernel_rfl
  generalize hK : Vb.kn (L s) = K at *
  generalize hH : Vb.wh (L s) = H at *
  have HK := hide hK
  have HH := hide hH
  clear hK hH
  generalize hA : (rkK s.size s.size (Vb.ones s.size) K) = A at hr
  generalize hB : (rkH s.size s.size (Vb.ones s.size) K (0#64 - H)) = B at hr
  have HR := hide hr
  have HA := hide hA
  have HB := hide hB
  clear hr hA hB
  go_enter Try.func21, Try.ntmps21
  go_wp2_with fail
  refine (iVecOf s _ hs (unhide HV)).mono ?_
  rw [unhide HK, unhide HH]
  rintro e w1 ⟨rfl, hb1⟩
  unfold V
  go_wp2_with fail
  go_region_held3 (fun w' => w'.cell? ⟨w1.heap.size, 0, none⟩ = some (.int .i64 s.size) ∧ w'.cell? ⟨w1.heap.size, 1, none⟩ = some (.int .u64 (U K)) ∧ w'.cell? ⟨w1.heap.size, 2, none⟩ = some (.int .u64 (U H))) (first | (go_simp; done) | (refine ⟨?_, ?_, ?_⟩ <;> (refine cell_later hb ?_; go_simp)) | go_keep) (first | (go_at_call 55; refine (iUnaryOps _).mono ?_; rintro e w2 ⟨rfl, hb⟩; have hbA := hb) | (go_at_call 104; refine (iNeg _ _ _ h2 _).mono ?_; rw [unhide HA, unhide HB]; rintro e w3 ⟨rfl, hb⟩; have hbB := hb; unfold V) | (go_at_call 54; refine (iText _ _ _ h2 _).mono ?_; rw [unhide HR]; rintro e w4 ⟨rfl, hb⟩; have hbC := hb))
  go_wp2
  go_ret
  exact ⟨rfl, btr (btr (btr (bdr (bal hb1 _)) hbA) hbB) hbC⟩
set_option maxRecDepth 100000 in
set_option maxHeartbeats 400000 in
theorem iUnary21 (s : ByteArray) (w : World) (hs : s.size ≤ maxLen) (hv : Vb.okV (L s) = true) :
    Calls Try.prog 21 #[.int .i64 21, .string s] w fun e w' => e = .returned (.string (S (unL 21 (L s)))) ∧ Below w.heap.size w w' := by
  obtain ⟨h1, h2, h3⟩ := (okV_iff s).1 hv
  have ht : tru s.size (Vb.kn (L s) &&& Vb.wh (L s) ||| Vb.kn (L s) &&& ~~~Vb.wh (L s)) (Vb.kn (L s) &&& ~~~Vb.wh (L s)) = truthL ((L s).map notB) := by
    have := tru_truth (not_valid h3) (by rw [List.length_map, L_len]; exact h2)
    rw [List.length_map, L_len, kn_not h3, wh_not h3] at this; exact this
  generalize hTT : truthL ((L s).map notB) = T at ht
  have hr : Vb.txt 1 (Vb.kn [T] &&& Vb.wh [T] ||| Vb.kn [T] &&& ~~~Vb.wh [T]) (Vb.kn [T] &&& ~~~Vb.wh [T]) = unL 21 (L s) := by
    rw [not_one _ (by rw [← hTT]; exact truth_valid _)]; unfold unL; rw [if_neg (by decide), if_neg (by decide), if_pos rfl, and_all h3 (by rw [L_len]; exact h1), hTT]
  have HT := hide ht
  clear ht hTT
  have HV := hide hv
  clear hv h3
  have hix : ∀ w, (Instr.index 76 (.agg uTab) (.int .i64 21)).run Try.prog w = .ok (.func (.func 105) #[] #[]) w := fun _ => by kernel_rfl
  generalize hK : Vb.kn (L s) = K at *
  generalize hH : Vb.wh (L s) = H at *
  have HK := hide hK
  have HH := hide hH
  clear hK hH
  generalize hA : (Vb.kn [T] &&& Vb.wh [T] ||| Vb.kn [T] &&& ~~~Vb.wh [T]) = A at hr
  generalize hB : (Vb.kn [T] &&& ~~~Vb.wh [T]) = B at hr
  have HR := hide hr
  have HA := hide hA
  have HB := hide hB
  clear hr hA hB
  go_enter Try.func21, Try.ntmps21
  go_wp2_with fail
  refine (iVecOf s _ hs (unhide HV)).mono ?_
  rw [unhide HK, unhide HH]
  rintro e w1 ⟨rfl, hb1⟩
  unfold V
  go_wp2_with fail
  go_region_held3 (fun w' => w'.cell? ⟨w1.heap.size, 0, none⟩ = some (.int .i64 s.size) ∧ w'.cell? ⟨w1.heap.size, 1, none⟩ = some (.int .u64 (U K)) ∧ w'.cell? ⟨w1.heap.size, 2, none⟩ = some (.int .u64 (U H))) (first | (go_simp; done) | (refine ⟨?_, ?_, ?_⟩ <;> (refine cell_later hb ?_; go_simp)) | go_keep) (first | (go_at_call 55; refine (iUnaryOps _).mono ?_; rintro e w2 ⟨rfl, hb⟩; have hbA := hb) | (go_at_call 105; refine (iAll _ _ _ h2 _ (unhide HT) _).mono ?_; rw [unhide HA, unhide HB]; rintro e w3 ⟨rfl, hb⟩; have hbB := hb; unfold V) | (go_at_call 54; refine (iText _ _ _ (by decide) _).mono ?_; rw [unhide HR]; rintro e w4 ⟨rfl, hb⟩; have hbC := hb))
  go_wp2
  go_ret
  exact ⟨rfl, btr (btr (btr (bdr (bal hb1 _)) hbA) hbB) hbC⟩
set_option maxRecDepth 100000 in
set_option maxHeartbeats 400000 in
theorem iUnary22 (s : ByteArray) (w : World) (hs : s.size ≤ maxLen) (hv : Vb.okV (L s) = true) :
    Calls Try.prog 21 #[.int .i64 22, .string s] w fun e w' => e = .returned (.string (S (unL 22 (L s)))) ∧ Below w.heap.size w w' := by
  obtain ⟨h1, h2, h3⟩ := (okV_iff s).1 hv
  have hr : Vb.txt 1 (Vb.kn [tru s.size (Vb.kn (L s)) (Vb.wh (L s))]) (Vb.wh [tru s.size (Vb.kn (L s)) (Vb.wh (L s))]) = unL 22 (L s) := by
    have := tru_truth h3 (by rw [L_len]; exact h2); rw [L_len] at this; rw [this, txt_one _ (truth_valid _)]; unfold unL; rw [if_neg (by decide), if_neg (by decide), if_neg (by decide), if_pos rfl, or_truth h3 (by rw [L_len]; exact h1)]
  have HV := hide hv
  clear hv h3
  have hix : ∀ w, (Instr.index 76 (.agg uTab) (.int .i64 22)).run Try.prog w = .ok (.func (.func 106) #[] #[]) w := fun _ => by kernel_rfl
  generalize hK : Vb.kn (L s) = K at *
  generalize hH : Vb.wh (L s) = H at *
  have HK := hide hK
  have HH := hide hH
  clear hK hH
  generalize hA : (Vb.kn [tru s.size K H]) = A at hr
  generalize hB : (Vb.wh [tru s.size K H]) = B at hr
  have HR := hide hr
  have HA := hide hA
  have HB := hide hB
  clear hr hA hB
  go_enter Try.func21, Try.ntmps21
  go_wp2_with fail
  refine (iVecOf s _ hs (unhide HV)).mono ?_
  rw [unhide HK, unhide HH]
  rintro e w1 ⟨rfl, hb1⟩
  unfold V
  go_wp2_with fail
  go_region_held3 (fun w' => w'.cell? ⟨w1.heap.size, 0, none⟩ = some (.int .i64 s.size) ∧ w'.cell? ⟨w1.heap.size, 1, none⟩ = some (.int .u64 (U K)) ∧ w'.cell? ⟨w1.heap.size, 2, none⟩ = some (.int .u64 (U H))) (first | (go_simp; done) | (refine ⟨?_, ?_, ?_⟩ <;> (refine cell_later hb ?_; go_simp)) | go_keep) (first | (go_at_call 55; refine (iUnaryOps _).mono ?_; rintro e w2 ⟨rfl, hb⟩; have hbA := hb) | (go_at_call 106; refine (iTruth _ _ _ h2 _).mono ?_; rw [unhide HA, unhide HB]; rintro e w3 ⟨rfl, hb⟩; have hbB := hb; unfold V) | (go_at_call 54; refine (iText _ _ _ (by decide) _).mono ?_; rw [unhide HR]; rintro e w4 ⟨rfl, hb⟩; have hbC := hb))
  go_wp2
  go_ret
  exact ⟨rfl, btr (btr (btr (bdr (bal hb1 _)) hbA) hbB) hbC⟩
set_option maxRecDepth 100000 in
set_option maxHeartbeats 400000 in
theorem iUnary23 (s : ByteArray) (w : World) (hs : s.size ≤ maxLen) (hv : Vb.okV (L s) = true) :
    Calls Try.prog 21 #[.int .i64 23, .string s] w fun e w' => e = .returned (.string (S (unL 23 (L s)))) ∧ Below w.heap.size w w' := by
  obtain ⟨h1, h2, h3⟩ := (okV_iff s).1 hv
  have hr : Vb.txt 1 (if (Vb.kn (L s)) = Vb.ones s.size then 1#64 else 0#64) (if (Vb.kn (L s)) = Vb.ones s.size then BitVec.ofInt 64 (bits .and .i64 (wrap64 (U (popc (Vb.wh (L s))))) 127) &&& Vb.ones 1 else 0#64) = unL 23 (L s) := by
    have := odd_txt h3 (by rw [L_len]; exact h1) (by rw [L_len]; exact h2); rw [L_len] at this; rw [this]; rfl
  have HV := hide hv
  clear hv h3
  have hix : ∀ w, (Instr.index 76 (.agg uTab) (.int .i64 23)).run Try.prog w = .ok (.func (.func 107) #[] #[]) w := fun _ => by kernel_rfl
  generalize hK : Vb.kn (L s) = K at *
  generalize hH : Vb.wh (L s) = H at *
  have HK := hide hK
  have HH := hide hH
  clear hK hH
  generalize hA : (if K = Vb.ones s.size then 1#64 else 0#64) = A at hr
  generalize hB : (if K = Vb.ones s.size then BitVec.ofInt 64 (bits .and .i64 (wrap64 (U (popc H))) 127) &&& Vb.ones 1 else 0#64) = B at hr
  have HR := hide hr
  have HA := hide hA
  have HB := hide hB
  clear hr hA hB
  go_enter Try.func21, Try.ntmps21
  go_wp2_with fail
  refine (iVecOf s _ hs (unhide HV)).mono ?_
  rw [unhide HK, unhide HH]
  rintro e w1 ⟨rfl, hb1⟩
  unfold V
  go_wp2_with fail
  go_region_held3 (fun w' => w'.cell? ⟨w1.heap.size, 0, none⟩ = some (.int .i64 s.size) ∧ w'.cell? ⟨w1.heap.size, 1, none⟩ = some (.int .u64 (U K)) ∧ w'.cell? ⟨w1.heap.size, 2, none⟩ = some (.int .u64 (U H))) (first | (go_simp; done) | (refine ⟨?_, ?_, ?_⟩ <;> (refine cell_later hb ?_; go_simp)) | go_keep) (first | (go_at_call 55; refine (iUnaryOps _).mono ?_; rintro e w2 ⟨rfl, hb⟩; have hbA := hb) | (go_at_call 107; refine (iOdd _ _ _ h2 _).mono ?_; rw [unhide HA, unhide HB]; rintro e w3 ⟨rfl, hb⟩; have hbB := hb; unfold V) | (go_at_call 54; refine (iText _ _ _ (by decide) _).mono ?_; rw [unhide HR]; rintro e w4 ⟨rfl, hb⟩; have hbC := hb))
  go_wp2
  go_ret
  exact ⟨rfl, btr (btr (btr (bdr (bal hb1 _)) hbA) hbB) hbC⟩
set_option maxRecDepth 100000 in
set_option maxHeartbeats 400000 in
theorem iUnary24 (s : ByteArray) (w : World) (hs : s.size ≤ maxLen) (hv : Vb.okV (L s) = true) :
    Calls Try.prog 21 #[.int .i64 24, .string s] w fun e w' => e = .returned (.string (S (unL 24 (L s)))) ∧ Below w.heap.size w w' := by
  obtain ⟨h1, h2, h3⟩ := (okV_iff s).1 hv
  have hr : Vb.txt 1 (Vb.kn [tru s.size (Vb.kn (L s)) (Vb.wh (L s))] &&& Vb.wh [tru s.size (Vb.kn (L s)) (Vb.wh (L s))] ||| Vb.kn [tru s.size (Vb.kn (L s)) (Vb.wh (L s))] &&& ~~~Vb.wh [tru s.size (Vb.kn (L s)) (Vb.wh (L s))]) (Vb.kn [tru s.size (Vb.kn (L s)) (Vb.wh (L s))] &&& ~~~Vb.wh [tru s.size (Vb.kn (L s)) (Vb.wh (L s))]) = unL 24 (L s) := by
    have := tru_truth h3 (by rw [L_len]; exact h2); rw [L_len] at this; rw [this, not_one _ (truth_valid _)]; rfl
  have HV := hide hv
  clear hv h3
  have hix : ∀ w, (Instr.index 76 (.agg uTab) (.int .i64 24)).run Try.prog w = .ok (.func (.func 108) #[] #[]) w := fun _ => by kernel_rfl
  generalize hK : Vb.kn (L s) = K at *
  generalize hH : Vb.wh (L s) = H at *
  have HK := hide hK
  have HH := hide hH
  clear hK hH
  generalize hA : (Vb.kn [tru s.size K H] &&& Vb.wh [tru s.size K H] ||| Vb.kn [tru s.size K H] &&& ~~~Vb.wh [tru s.size K H]) = A at hr
  generalize hB : (Vb.kn [tru s.size K H] &&& ~~~Vb.wh [tru s.size K H]) = B at hr
  have HR := hide hr
  have HA := hide hA
  have HB := hide hB
  clear hr hA hB
  go_enter Try.func21, Try.ntmps21
  go_wp2_with fail
  refine (iVecOf s _ hs (unhide HV)).mono ?_
  rw [unhide HK, unhide HH]
  rintro e w1 ⟨rfl, hb1⟩
  unfold V
  go_wp2_with fail
  go_region_held3 (fun w' => w'.cell? ⟨w1.heap.size, 0, none⟩ = some (.int .i64 s.size) ∧ w'.cell? ⟨w1.heap.size, 1, none⟩ = some (.int .u64 (U K)) ∧ w'.cell? ⟨w1.heap.size, 2, none⟩ = some (.int .u64 (U H))) (first | (go_simp; done) | (refine ⟨?_, ?_, ?_⟩ <;> (refine cell_later hb ?_; go_simp)) | go_keep) (first | (go_at_call 55; refine (iUnaryOps _).mono ?_; rintro e w2 ⟨rfl, hb⟩; have hbA := hb) | (go_at_call 108; refine (iNone _ _ _ h2 _).mono ?_; rw [unhide HA, unhide HB]; rintro e w3 ⟨rfl, hb⟩; have hbB := hb; unfold V) | (go_at_call 54; refine (iText _ _ _ (by decide) _).mono ?_; rw [unhide HR]; rintro e w4 ⟨rfl, hb⟩; have hbC := hb))
  go_wp2
  go_ret
  exact ⟨rfl, btr (btr (btr (bdr (bal hb1 _)) hbA) hbB) hbC⟩
end Go.Proofs.Ytmbllgblbdfobaa
