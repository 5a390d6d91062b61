/- What the program's Binary answers, out of what the operation in its table answers. -/
import Derived.Test.YtmbllgblbdfobaaG19U5
namespace Go.Proofs.Ytmbllgblbdfobaa
open Go.RowKit
set_option linter.unusedVariables false
theorem iAny (j : Int) (w : World) (h1 : 14 ≤ j) (h2 : j ≤ 18) : Calls Try.prog 52 #[.int .i64 j] w fun e w' => e = .returned (.bool true) ∧ w = w' := by
  go_enter Try.func52, Try.ntmps52
  go_wp2
  go_ret
  exact ⟨rfl, rfl⟩
set_option maxRecDepth 100000 in
set_option maxHeartbeats 800000 in
theorem iBin14 (sg : Bool) (a b : ByteArray) (n m l : Nat) (K H P Q A B : BitVec 64) (R : List UInt8) (w : World) (ha : a.size ≤ maxLen) (hb0 : b.size ≤ maxLen) (va : Vb.okV (L a) = true) (vb : Vb.okV (L b) = true) (ea : a.size = n) (eb : b.size = m)
    (hK : Vb.kn (L a) = K) (hH : Vb.wh (L a) = H) (hP : Vb.kn (L b) = P) (hQ : Vb.wh (L b) = Q) (hl : l ≤ 64)
    (hc : ∀ b0 W, W.cell? ⟨b0, 0, none⟩ = some (.bool sg) → Calls Try.prog 98 #[V n K H, V m P Q] W fun e w' => e = .returned (V l A B) ∧ Below W.heap.size W w') (hr : Vb.txt l A B = R) :
    Calls Try.prog 19 #[.int .i64 14, .bool sg, .string a, .string b] w fun e w' => e = .returned (.string (S R)) ∧ Below w.heap.size w w' := by
  have hix : ∀ b0 w, (Instr.index 70 (.agg (bTab b0)) (.int .i64 14)).run Try.prog w = .ok (.func (.func 98) #[] #[]) w := fun _ _ => rfl
  have HT : Hid (∀ W, Calls Try.prog 51 #[.string a, .string b] W fun e w' => e = .returned (.tuple #[V n K H, V m P Q, .bool true]) ∧ Below W.heap.size W w') := fun W => by
    have := iTwoOf a b W ha hb0 va vb
    rw [ea, eb, hK, hH, hP, hQ] at this
    exact this
  have HC := hide hc
  have HR := hide hr
  clear ha hb0 va vb hK hH hP hQ hc hr
  go_enter Try.func19, Try.ntmps19
  go_wp2_with fail
  refine (unhide HT _).mono ?_
  rintro e w1 ⟨rfl, hb1⟩
  unfold V
  by_cases hnm : n = m
  · subst hnm
    go_wp2_with fail
    go_region_held3 (fun w' => w'.cell? ⟨w1.heap.size, 0, none⟩ = some (.int .i64 n) ∧ w'.cell? ⟨w1.heap.size, 1, none⟩ = some (.int .u64 (U K)) ∧ w'.cell? ⟨w1.heap.size, 2, none⟩ = some (.int .u64 (U H)) ∧ w'.cell? ⟨w1.heap.size + 1, 0, none⟩ = some (.int .i64 n) ∧ w'.cell? ⟨w1.heap.size + 1, 1, none⟩ = some (.int .u64 (U P)) ∧ w'.cell? ⟨w1.heap.size + 1, 2, none⟩ = some (.int .u64 (U Q))) (first | (go_simp; done) | (refine ⟨?_, ?_, ?_, ?_, ?_, ?_⟩ <;> (refine cell_later hb ?_; go_simp)) | go_keep) (first | (go_at_call 53; refine (iBinaryOps sg _).mono ?_; rintro e w2 ⟨rfl, hcl0, hb⟩; have hbA := hb; have hcl : w2.cell? ⟨w1.heap.size + 1 + 1, 0, none⟩ = some (.bool sg) := (by simpa using hcl0)) | (go_at_call 98; refine (unhide HC _ _ hcl).mono ?_; rintro e w3 ⟨rfl, hb⟩; have hbB := hb; unfold V) | (go_at_call 54; refine (iText _ _ _ hl _).mono ?_; rw [unhide HR]; rintro e w4 ⟨rfl, hb⟩; have hbC := hb))
    go_wp2
    go_ret
    exact ⟨rfl, btr (btr (btr (bdr (bal (bal hb1 _) _)) hbA) hbB) hbC⟩
  · have d1 : ((n : Int) != (m : Int)) = true := by rw [bne_iff_ne]; omega
    clear hnm
    go_wp2_with fail
    refine (iAny 14 _ (by omega) (by omega)).mono ?_
    rintro e w0 ⟨rfl, rfl⟩
    go_wp2_with fail
    go_region_held3 (fun w' => w'.cell? ⟨w1.heap.size, 0, none⟩ = some (.int .i64 n) ∧ w'.cell? ⟨w1.heap.size, 1, none⟩ = some (.int .u64 (U K)) ∧ w'.cell? ⟨w1.heap.size, 2, none⟩ = some (.int .u64 (U H)) ∧ w'.cell? ⟨w1.heap.size + 1, 0, none⟩ = some (.int .i64 m) ∧ w'.cell? ⟨w1.heap.size + 1, 1, none⟩ = some (.int .u64 (U P)) ∧ w'.cell? ⟨w1.heap.size + 1, 2, none⟩ = some (.int .u64 (U Q))) (first | (go_simp; done) | (refine ⟨?_, ?_, ?_, ?_, ?_, ?_⟩ <;> (refine cell_later hb ?_; go_simp)) | go_keep) (first | (go_at_call 53; refine (iBinaryOps sg _).mono ?_; rintro e w2 ⟨rfl, hcl0, hb⟩; have hbA := hb; have hcl : w2.cell? ⟨w1.heap.size + 1 + 1, 0, none⟩ = some (.bool sg) := (by simpa using hcl0)) | (go_at_call 98; refine (unhide HC _ _ hcl).mono ?_; rintro e w3 ⟨rfl, hb⟩; have hbB := hb; unfold V) | (go_at_call 54; refine (iText _ _ _ hl _).mono ?_; rw [unhide HR]; rintro e w4 ⟨rfl, hb⟩; have hbC := hb))
    go_wp2
    go_ret
    exact ⟨rfl, btr (btr (btr (bdr (bal (bal hb1 _) _)) hbA) hbB) hbC⟩
set_option maxRecDepth 100000 in
set_option maxHeartbeats 800000 in
theorem iBin15 (sg : Bool) (a b : ByteArray) (n m l : Nat) (K H P Q A B : BitVec 64) (R : List UInt8) (w : World) (ha : a.size ≤ maxLen) (hb0 : b.size ≤ maxLen) (va : Vb.okV (L a) = true) (vb : Vb.okV (L b) = true) (ea : a.size = n) (eb : b.size = m)
    (hK : Vb.kn (L a) = K) (hH : Vb.wh (L a) = H) (hP : Vb.kn (L b) = P) (hQ : Vb.wh (L b) = Q) (hl : l ≤ 64)
    (hc : ∀ b0 W, W.cell? ⟨b0, 0, none⟩ = some (.bool sg) → Calls Try.prog 99 #[V n K H, V m P Q] W fun e w' => e = .returned (V l A B) ∧ Below W.heap.size W w') (hr : Vb.txt l A B = R) :
    Calls Try.prog 19 #[.int .i64 15, .bool sg, .string a, .string b] w fun e w' => e = .returned (.string (S R)) ∧ Below w.heap.size w w' := by
  have hix : ∀ b0 w, (Instr.index 70 (.agg (bTab b0)) (.int .i64 15)).run Try.prog w = .ok (.func (.func 99) #[] #[]) w := fun _ _ => rfl
  have HT : Hid (∀ W, Calls Try.prog 51 #[.string a, .string b] W fun e w' => e = .returned (.tuple #[V n K H, V m P Q, .bool true]) ∧ Below W.heap.size W w') := fun W => by
    have := iTwoOf a b W ha hb0 va vb
    rw [ea, eb, hK, hH, hP, hQ] at this
    exact this
  have HC := hide hc
  have HR := hide hr
  clear ha hb0 va vb hK hH hP hQ hc hr
  go_enter Try.func19, Try.ntmps19
  go_wp2_with fail
  refine (unhide HT _).mono ?_
  rintro e w1 ⟨rfl, hb1⟩
  unfold V
  by_cases hnm : n = m
  · subst hnm
    go_wp2_with fail
    go_region_held3 (fun w' => w'.cell? ⟨w1.heap.size, 0, none⟩ = some (.int .i64 n) ∧ w'.cell? ⟨w1.heap.size, 1, none⟩ = some (.int .u64 (U K)) ∧ w'.cell? ⟨w1.heap.size, 2, none⟩ = some (.int .u64 (U H)) ∧ w'.cell? ⟨w1.heap.size + 1, 0, none⟩ = some (.int .i64 n) ∧ w'.cell? ⟨w1.heap.size + 1, 1, none⟩ = some (.int .u64 (U P)) ∧ w'.cell? ⟨w1.heap.size + 1, 2, none⟩ = some (.int .u64 (U Q))) (first | (go_simp; done) | (refine ⟨?_, ?_, ?_, ?_, ?_, ?_⟩ <;> (refine cell_later hb ?_; go_simp)) | go_keep) (first | (go_at_call 53; refine (iBinaryOps sg _).mono ?_; rintro e w2 ⟨rfl, hcl0, hb⟩; have hbA := hb; have hcl : w2.cell? ⟨w1.heap.size + 1 + 1, 0, none⟩ = some (.bool sg) := (by simpa using hcl0)) | (go_at_call 99; refine (unhide HC _ _ hcl).mono ?_; rintro e w3 ⟨rfl, hb⟩; have hbB := hb; unfold V) | (go_at_call 54; refine (iText _ _ _ hl _).mono ?_; rw [unhide HR]; rintro e w4 ⟨rfl, hb⟩; have hbC := hb))
    go_wp2
    go_ret
    exact ⟨rfl, btr (btr (btr (bdr (bal (bal hb1 _) _)) hbA) hbB) hbC⟩
  · have d1 : ((n : Int) != (m : Int)) = true := by rw [bne_iff_ne]; omega
    clear hnm
    go_wp2_with fail
    refine (iAny 15 _ (by omega) (by omega)).mono ?_
    rintro e w0 ⟨rfl, rfl⟩
    go_wp2_with fail
    go_region_held3 (fun w' => w'.cell? ⟨w1.heap.size, 0, none⟩ = some (.int .i64 n) ∧ w'.cell? ⟨w1.heap.size, 1, none⟩ = some (.int .u64 (U K)) ∧ w'.cell? ⟨w1.heap.size, 2, none⟩ = some (.int .u64 (U H)) ∧ w'.cell? ⟨w1.heap.size + 1, 0, none⟩ = some (.int .i64 m) ∧ w'.cell? ⟨w1.heap.size + 1, 1, none⟩ = some (.int .u64 (U P)) ∧ w'.cell? ⟨w1.heap.size + 1, 2, none⟩ = some (.int .u64 (U Q))) (first | (go_simp; done) | (refine ⟨?_, ?_, ?_, ?_, ?_, ?_⟩ <;> (refine cell_later hb ?_; go_simp)) | go_keep) (first | (go_at_call 53; refine (iBinaryOps sg _).mono ?_; rintro e w2 ⟨rfl, hcl0, hb⟩; have hbA := hb; have hcl : w2.cell? ⟨w1.heap.size + 1 + 1, 0, none⟩ = some (.bool sg) := (by simpa using hcl0)) | (go_at_call 99; refine (unhide HC _ _ hcl).mono ?_; rintro e w3 ⟨rfl, hb⟩; have hbB := hb; unfold V) | (go_at_call 54; refine (iText _ _ _ hl _).mono ?_; rw [unhide HR]; rintro e w4 ⟨rfl, hb⟩; have hbC := hb))
    go_wp2
    go_ret
    exact ⟨rfl, btr (btr (btr (bdr (bal (bal hb1 _) _)) hbA) hbB) hbC⟩
set_option maxRecDepth 100000 in
set_option maxHeartbeats 800000 in
theorem iBin16 (sg : Bool) (a b : ByteArray) (n m l : Nat) (K H P Q A B : BitVec 64) (R : List UInt8) (w : World) (ha : a.size ≤ maxLen) (hb0 : b.size ≤ maxLen) (va : Vb.okV (L a) = true) (vb : Vb.okV (L b) = true) (ea : a.size = n) (eb : b.size = m)
    (hK : Vb.kn (L a) = K) (hH : Vb.wh (L a) = H) (hP : Vb.kn (L b) = P) (hQ : Vb.wh (L b) = Q) (hl : l ≤ 64)
    (hc : ∀ b0 W, W.cell? ⟨b0, 0, none⟩ = some (.bool sg) → Calls Try.prog 100 #[V n K H, V m P Q] W fun e w' => e = .returned (V l A B) ∧ Below W.heap.size W w') (hr : Vb.txt l A B = R) :
    Calls Try.prog 19 #[.int .i64 16, .bool sg, .string a, .string b] w fun e w' => e = .returned (.string (S R)) ∧ Below w.heap.size w w' := by
  have hix : ∀ b0 w, (Instr.index 70 (.agg (bTab b0)) (.int .i64 16)).run Try.prog w = .ok (.func (.func 100) #[] #[]) w := fun _ _ => rfl
  have HT : Hid (∀ W, Calls Try.prog 51 #[.string a, .string b] W fun e w' => e = .returned (.tuple #[V n K H, V m P Q, .bool true]) ∧ Below W.heap.size W w') := fun W => by
    have := iTwoOf a b W ha hb0 va vb
    rw [ea, eb, hK, hH, hP, hQ] at this
    exact this
  have HC := hide hc
  have HR := hide hr
  clear ha hb0 va vb hK hH hP hQ hc hr
  go_enter Try.func19, Try.ntmps19
  go_wp2_with fail
  refine (unhide HT _).mono ?_
  rintro e w1 ⟨rfl, hb1⟩
  unfold V
  by_cases hnm : n = m
  · subst hnm
    go_wp2_with fail
    go_region_held3 (fun w' => w'.cell? ⟨w1.heap.size, 0, none⟩ = some (.int .i64 n) ∧ w'.cell? ⟨w1.heap.size, 1, none⟩ = some (.int .u64 (U K)) ∧ w'.cell? ⟨w1.heap.size, 2, none⟩ = some (.int .u64 (U H)) ∧ w'.cell? ⟨w1.heap.size + 1, 0, none⟩ = some (.int .i64 n) ∧ w'.cell? ⟨w1.heap.size + 1, 1, none⟩ = some (.int .u64 (U P)) ∧ w'.cell? ⟨w1.heap.size + 1, 2, none⟩ = some (.int .u64 (U Q))) (first | (go_simp; done) | (refine ⟨?_, ?_, ?_, ?_, ?_, ?_⟩ <;> (refine cell_later hb ?_; go_simp)) | go_keep) (first | (go_at_call 53; refine (iBinaryOps sg _).mono ?_; rintro e w2 ⟨rfl, hcl0, hb⟩; have hbA := hb; have hcl : w2.cell? ⟨w1.heap.size + 1 + 1, 0, none⟩ = some (.bool sg) := (by simpa using hcl0)) | (go_at_call 100; refine (unhide HC _ _ hcl).mono ?_; rintro e w3 ⟨rfl, hb⟩; have hbB := hb; unfold V) | (go_at_call 54; refine (iText _ _ _ hl _).mono ?_; rw [unhide HR]; rintro e w4 ⟨rfl, hb⟩; have hbC := hb))
    go_wp2
    go_ret
    exact ⟨rfl, btr (btr (btr (bdr (bal (bal hb1 _) _)) hbA) hbB) hbC⟩
  · have d1 : ((n : Int) != (m : Int)) = true := by rw [bne_iff_ne]; omega
    clear hnm
    go_wp2_with fail
    refine (iAny 16 _ (by omega) (by omega)).mono ?_
    rintro e w0 ⟨rfl, rfl⟩
    go_wp2_with fail
    go_region_held3 (fun w' => w'.cell? ⟨w1.heap.size, 0, none⟩ = some (.int .i64 n) ∧ w'.cell? ⟨w1.heap.size, 1, none⟩ = some (.int .u64 (U K)) ∧ w'.cell? ⟨w1.heap.size, 2, none⟩ = some (.int .u64 (U H)) ∧ w'.cell? ⟨w1.heap.size + 1, 0, none⟩ = some (.int .i64 m) ∧ w'.cell? ⟨w1.heap.size + 1, 1, none⟩ = some (.int .u64 (U P)) ∧ w'.cell? ⟨w1.heap.size + 1, 2, none⟩ = some (.int .u64 (U Q))) (first | (go_simp; done) | (refine ⟨?_, ?_, ?_, ?_, ?_, ?_⟩ <;> (refine cell_later hb ?_; go_simp)) | go_keep) (first | (go_at_call 53; refine (iBinaryOps sg _).mono ?_; rintro e w2 ⟨rfl, hcl0, hb⟩; have hbA := hb; have hcl : w2.cell? ⟨w1.heap.size + 1 + 1, 0, none⟩ = some (.bool sg) := (by simpa using hcl0)) | (go_at_call 100; refine (unhide HC _ _ hcl).mono ?_; rintro e w3 ⟨rfl, hb⟩; have hbB := hb; unfold V) | (go_at_call 54; refine (iText _ _ _ hl _).mono ?_; rw [unhide HR]; rintro e w4 ⟨rfl, hb⟩; have hbC := hb))
    go_wp2
    go_ret
    exact ⟨rfl, btr (btr (btr (bdr (bal (bal hb1 _) _)) hbA) hbB) hbC⟩
set_option maxRecDepth 100000 in
set_option maxHeartbeats 800000 in
theorem iBin17 (sg : Bool) (a b : ByteArray) (n m l : Nat) (K H P Q A B : BitVec 64) (R : List UInt8) (w : World) (ha : a.size ≤ maxLen) (hb0 : b.size ≤ maxLen) (va : Vb.okV (L a) = true) (vb : Vb.okV (L b) = true) (ea : a.size = n) (eb : b.size = m)
    (hK : Vb.kn (L a) = K) (hH : Vb.wh (L a) = H) (hP : Vb.kn (L b) = P) (hQ : Vb.wh (L b) = Q) (hl : l ≤ 64)
    (hc : ∀ b0 W, W.cell? ⟨b0, 0, none⟩ = some (.bool sg) → Calls Try.prog 101 #[V n K H, V m P Q] W fun e w' => e = .returned (V l A B) ∧ Below W.heap.size W w') (hr : Vb.txt l A B = R) :
    Calls Try.prog 19 #[.int .i64 17, .bool sg, .string a, .string b] w fun e w' => e = .returned (.string (S R)) ∧ Below w.heap.size w w' := by
  have hix : ∀ b0 w, (Instr.index 70 (.agg (bTab b0)) (.int .i64 17)).run Try.prog w = .ok (.func (.func 101) #[] #[]) w := fun _ _ => rfl
  have HT : Hid (∀ W, Calls Try.prog 51 #[.string a, .string b] W fun e w' => e = .returned (.tuple #[V n K H, V m P Q, .bool true]) ∧ Below W.heap.size W w') := fun W => by
    have := iTwoOf a b W ha hb0 va vb
    rw [ea, eb, hK, hH, hP, hQ] at this
    exact this
  have HC := hide hc
  have HR := hide hr
  clear ha hb0 va vb hK hH hP hQ hc hr
  go_enter Try.func19, Try.ntmps19
  go_wp2_with fail
  refine (unhide HT _).mono ?_
  rintro e w1 ⟨rfl, hb1⟩
  unfold V
  by_cases hnm : n = m
  · subst hnm
    go_wp2_with fail
    go_region_held3 (fun w' => w'.cell? ⟨w1.heap.size, 0, none⟩ = some (.int .i64 n) ∧ w'.cell? ⟨w1.heap.size, 1, none⟩ = some (.int .u64 (U K)) ∧ w'.cell? ⟨w1.heap.size, 2, none⟩ = some (.int .u64 (U H)) ∧ w'.cell? ⟨w1.heap.size + 1, 0, none⟩ = some (.int .i64 n) ∧ w'.cell? ⟨w1.heap.size + 1, 1, none⟩ = some (.int .u64 (U P)) ∧ w'.cell? ⟨w1.heap.size + 1, 2, none⟩ = some (.int .u64 (U Q))) (first | (go_simp; done) | (refine ⟨?_, ?_, ?_, ?_, ?_, ?_⟩ <;> (refine cell_later hb ?_; go_simp)) | go_keep) (first | (go_at_call 53; refine (iBinaryOps sg _).mono ?_; rintro e w2 ⟨rfl, hcl0, hb⟩; have hbA := hb; have hcl : w2.cell? ⟨w1.heap.size + 1 + 1, 0, none⟩ = some (.bool sg) := (by simpa using hcl0)) | (go_at_call 101; refine (unhide HC _ _ hcl).mono ?_; rintro e w3 ⟨rfl, hb⟩; have hbB := hb; unfold V) | (go_at_call 54; refine (iText _ _ _ hl _).mono ?_; rw [unhide HR]; rintro e w4 ⟨rfl, hb⟩; have hbC := hb))
    go_wp2
    go_ret
    exact ⟨rfl, btr (btr (btr (bdr (bal (bal hb1 _) _)) hbA) hbB) hbC⟩
  · have d1 : ((n : Int) != (m : Int)) = true := by rw [bne_iff_ne]; omega
    clear hnm
    go_wp2_with fail
    refine (iAny 17 _ (by omega) (by omega)).mono ?_
    rintro e w0 ⟨rfl, rfl⟩
    go_wp2_with fail
    go_region_held3 (fun w' => w'.cell? ⟨w1.heap.size, 0, none⟩ = some (.int .i64 n) ∧ w'.cell? ⟨w1.heap.size, 1, none⟩ = some (.int .u64 (U K)) ∧ w'.cell? ⟨w1.heap.size, 2, none⟩ = some (.int .u64 (U H)) ∧ w'.cell? ⟨w1.heap.size + 1, 0, none⟩ = some (.int .i64 m) ∧ w'.cell? ⟨w1.heap.size + 1, 1, none⟩ = some (.int .u64 (U P)) ∧ w'.cell? ⟨w1.heap.size + 1, 2, none⟩ = some (.int .u64 (U Q))) (first | (go_simp; done) | (refine ⟨?_, ?_, ?_, ?_, ?_, ?_⟩ <;> (refine cell_later hb ?_; go_simp)) | go_keep) (first | (go_at_call 53; refine (iBinaryOps sg _).mono ?_; rintro e w2 ⟨rfl, hcl0, hb⟩; have hbA := hb; have hcl : w2.cell? ⟨w1.heap.size + 1 + 1, 0, none⟩ = some (.bool sg) := (by simpa using hcl0)) | (go_at_call 101; refine (unhide HC _ _ hcl).mono ?_; rintro e w3 ⟨rfl, hb⟩; have hbB := hb; unfold V) | (go_at_call 54; refine (iText _ _ _ hl _).mono ?_; rw [unhide HR]; rintro e w4 ⟨rfl, hb⟩; have hbC := hb))
    go_wp2
    go_ret
    exact ⟨rfl, btr (btr (btr (bdr (bal (bal hb1 _) _)) hbA) hbB) hbC⟩
set_option maxRecDepth 100000 in
set_option maxHeartbeats 800000 in
theorem iBin18 (sg : Bool) (a b : ByteArray) (n m l : Nat) (K H P Q A B : BitVec 64) (R : List UInt8) (w : World) (ha : a.size ≤ maxLen) (hb0 : b.size ≤ maxLen) (va : Vb.okV (L a) = true) (vb : Vb.okV (L b) = true) (ea : a.size = n) (eb : b.size = m)
    (hK : Vb.kn (L a) = K) (hH : Vb.wh (L a) = H) (hP : Vb.kn (L b) = P) (hQ : Vb.wh (L b) = Q) (hl : l ≤ 64)
    (hc : ∀ b0 W, W.cell? ⟨b0, 0, none⟩ = some (.bool sg) → Calls Try.prog 102 #[V n K H, V m P Q] W fun e w' => e = .returned (V l A B) ∧ Below W.heap.size W w') (hr : Vb.txt l A B = R) :
    Calls Try.prog 19 #[.int .i64 18, .bool sg, .string a, .string b] w fun e w' => e = .returned (.string (S R)) ∧ Below w.heap.size w w' := by
  have hix : ∀ b0 w, (Instr.index 70 (.agg (bTab b0)) (.int .i64 18)).run Try.prog w = .ok (.func (.func 102) #[] #[]) w := fun _ _ => rfl
  have HT : Hid (∀ W, Calls Try.prog 51 #[.string a, .string b] W fun e w' => e = .returned (.tuple #[V n K H, V m P Q, .bool true]) ∧ Below W.heap.size W w') := fun W => by
    have := iTwoOf a b W ha hb0 va vb
    rw [ea, eb, hK, hH, hP, hQ] at this
    exact this
  have HC := hide hc
  have HR := hide hr
  clear ha hb0 va vb hK hH hP hQ hc hr
  go_enter Try.func19, Try.ntmps19
  go_wp2_with fail
  refine (unhide HT _).mono ?_
  rintro e w1 ⟨rfl, hb1⟩
  unfold V
  by_cases hnm : n = m
  · subst hnm
    go_wp2_with fail
    go_region_held3 (fun w' => w'.cell? ⟨w1.heap.size, 0, none⟩ = some (.int .i64 n) ∧ w'.cell? ⟨w1.heap.size, 1, none⟩ = some (.int .u64 (U K)) ∧ w'.cell? ⟨w1.heap.size, 2, none⟩ = some (.int .u64 (U H)) ∧ w'.cell? ⟨w1.heap.size + 1, 0, none⟩ = some (.int .i64 n) ∧ w'.cell? ⟨w1.heap.size + 1, 1, none⟩ = some (.int .u64 (U P)) ∧ w'.cell? ⟨w1.heap.size + 1, 2, none⟩ = some (.int .u64 (U Q))) (first | (go_simp; done) | (refine ⟨?_, ?_, ?_, ?_, ?_, ?_⟩ <;> (refine cell_later hb ?_; go_simp)) | go_keep) (first | (go_at_call 53; refine (iBinaryOps sg _).mono ?_; rintro e w2 ⟨rfl, hcl0, hb⟩; have hbA := hb; have hcl : w2.cell? ⟨w1.heap.size + 1 + 1, 0, none⟩ = some (.bool sg) := (by simpa using hcl0)) | (go_at_call 102; refine (unhide HC _ _ hcl).mono ?_; rintro e w3 ⟨rfl, hb⟩; have hbB := hb; unfold V) | (go_at_call 54; refine (iText _ _ _ hl _).mono ?_; rw [unhide HR]; rintro e w4 ⟨rfl, hb⟩; have hbC := hb))
    go_wp2
    go_ret
    exact ⟨rfl, btr (btr (btr (bdr (bal (bal hb1 _) _)) hbA) hbB) hbC⟩
  · have d1 : ((n : Int) != (m : Int)) = true := by rw [bne_iff_ne]; omega
    clear hnm
    go_wp2_with fail
    refine (iAny 18 _ (by omega) (by omega)).mono ?_
    rintro e w0 ⟨rfl, rfl⟩
    go_wp2_with fail
    go_region_held3 (fun w' => w'.cell? ⟨w1.heap.size, 0, none⟩ = some (.int .i64 n) ∧ w'.cell? ⟨w1.heap.size, 1, none⟩ = some (.int .u64 (U K)) ∧ w'.cell? ⟨w1.heap.size, 2, none⟩ = some (.int .u64 (U H)) ∧ w'.cell? ⟨w1.heap.size + 1, 0, none⟩ = some (.int .i64 m) ∧ w'.cell? ⟨w1.heap.size + 1, 1, none⟩ = some (.int .u64 (U P)) ∧ w'.cell? ⟨w1.heap.size + 1, 2, none⟩ = some (.int .u64 (U Q))) (first | (go_simp; done) | (refine ⟨?_, ?_, ?_, ?_, ?_, ?_⟩ <;> (refine cell_later hb ?_; go_simp)) | go_keep) (first | (go_at_call 53; refine (iBinaryOps sg _).mono ?_; rintro e w2 ⟨rfl, hcl0, hb⟩; have hbA := hb; have hcl : w2.cell? ⟨w1.heap.size + 1 + 1, 0, none⟩ = some (.bool sg) := (by simpa using hcl0)) | (go_at_call 102; refine (unhide HC _ _ hcl).mono ?_; rintro e w3 ⟨rfl, hb⟩; have hbB := hb; unfold V) | (go_at_call 54; refine (iText _ _ _ hl _).mono ?_; rw [unhide HR]; rintro e w4 ⟨rfl, hb⟩; have hbC := hb))
    go_wp2
    go_ret
    exact ⟨rfl, btr (btr (btr (bdr (bal (bal hb1 _) _)) hbA) hbB) hbC⟩
end Go.Proofs.Ytmbllgblbdfobaa
