/- What the program's Binary answers, out of what the operation in its table answers. -/
import Derived.Test.YtmbllgblbdfobaaG19U5
namespace Go.Proofs.Ytmbllgblbdfobaa
open Go.RowKit
set_option linter.unusedVariables false
set_option maxRecDepth 100000 in
set_option maxHeartbeats 800000 in
theorem iBin1 (sg : Bool) (a b : ByteArray) (n l : Nat) (K H P Q A B : BitVec 64) (R : List UInt8) (w : World) (ha : a.size ≤ maxLen) (hb0 : b.size ≤ maxLen) (va : Vb.okV (L a) = true) (vb : Vb.okV (L b) = true) (ea : a.size = n) (eb : b.size = n)
    (hK : Vb.kn (L a) = K) (hH : Vb.wh (L a) = H) (hP : Vb.kn (L b) = P) (hQ : Vb.wh (L b) = Q) (hl : l ≤ 64)
    (hc : ∀ b0 W, W.cell? ⟨b0, 0, none⟩ = some (.bool sg) → Calls Try.prog 81 #[V n K H, V n P Q] W fun e w' => e = .returned (V l A B) ∧ Below W.heap.size W w') (hr : Vb.txt l A B = R) :
    Calls Try.prog 19 #[.int .i64 1, .bool sg, .string a, .string b] w fun e w' => e = .returned (.string (S R)) ∧ Below w.heap.size w w' := by
  have hix : ∀ b0 w, (Instr.index 70 (.agg (bTab b0)) (.int .i64 1)).run Try.prog w = .ok (.func (.func 81) #[] #[]) w := fun _ _ => rfl
  have HT : Hid (∀ W, Calls Try.prog 51 #[.string a, .string b] W fun e w' => e = .returned (.tuple #[V n K H, V n P Q, .bool true]) ∧ Below W.heap.size W w') := fun W => by
    have := iTwoOf a b W ha hb0 va vb
    rw [ea, eb, hK, hH, hP, hQ] at this
    exact this
  have HC := hide hc
  have HR := hide hr
  clear ha hb0 va vb hK hH hP hQ hc hr
  go_enter Try.func19, Try.ntmps19
  go_wp2_with fail
  refine (unhide HT _).mono ?_
  rintro e w1 ⟨rfl, hb1⟩
  unfold V
  go_wp2_with fail
  go_region_held3 (fun w' => w'.cell? ⟨w1.heap.size, 0, none⟩ = some (.int .i64 n) ∧ w'.cell? ⟨w1.heap.size, 1, none⟩ = some (.int .u64 (U K)) ∧ w'.cell? ⟨w1.heap.size, 2, none⟩ = some (.int .u64 (U H)) ∧ w'.cell? ⟨w1.heap.size + 1, 0, none⟩ = some (.int .i64 n) ∧ w'.cell? ⟨w1.heap.size + 1, 1, none⟩ = some (.int .u64 (U P)) ∧ w'.cell? ⟨w1.heap.size + 1, 2, none⟩ = some (.int .u64 (U Q))) (first | (go_simp; done) | (refine ⟨?_, ?_, ?_, ?_, ?_, ?_⟩ <;> (refine cell_later hb ?_; go_simp)) | go_keep) (first | (go_at_call 53; refine (iBinaryOps sg _).mono ?_; rintro e w2 ⟨rfl, hcl0, hb⟩; have hbA := hb; have hcl : w2.cell? ⟨w1.heap.size + 1 + 1, 0, none⟩ = some (.bool sg) := (by simpa using hcl0)) | (go_at_call 81; refine (unhide HC _ _ hcl).mono ?_; rintro e w3 ⟨rfl, hb⟩; have hbB := hb; unfold V) | (go_at_call 54; refine (iText _ _ _ hl _).mono ?_; rw [unhide HR]; rintro e w4 ⟨rfl, hb⟩; have hbC := hb))
  go_wp2
  go_ret
  exact ⟨rfl, btr (btr (btr (bdr (bal (bal hb1 _) _)) hbA) hbB) hbC⟩
set_option maxRecDepth 100000 in
set_option maxHeartbeats 800000 in
theorem iBin2 (sg : Bool) (a b : ByteArray) (n l : Nat) (K H P Q A B : BitVec 64) (R : List UInt8) (w : World) (ha : a.size ≤ maxLen) (hb0 : b.size ≤ maxLen) (va : Vb.okV (L a) = true) (vb : Vb.okV (L b) = true) (ea : a.size = n) (eb : b.size = n)
    (hK : Vb.kn (L a) = K) (hH : Vb.wh (L a) = H) (hP : Vb.kn (L b) = P) (hQ : Vb.wh (L b) = Q) (hl : l ≤ 64)
    (hc : ∀ b0 W, W.cell? ⟨b0, 0, none⟩ = some (.bool sg) → Calls Try.prog 82 #[V n K H, V n P Q] W fun e w' => e = .returned (V l A B) ∧ Below W.heap.size W w') (hr : Vb.txt l A B = R) :
    Calls Try.prog 19 #[.int .i64 2, .bool sg, .string a, .string b] w fun e w' => e = .returned (.string (S R)) ∧ Below w.heap.size w w' := by
  have hix : ∀ b0 w, (Instr.index 70 (.agg (bTab b0)) (.int .i64 2)).run Try.prog w = .ok (.func (.func 82) #[] #[]) w := fun _ _ => rfl
  have HT : Hid (∀ W, Calls Try.prog 51 #[.string a, .string b] W fun e w' => e = .returned (.tuple #[V n K H, V n P Q, .bool true]) ∧ Below W.heap.size W w') := fun W => by
    have := iTwoOf a b W ha hb0 va vb
    rw [ea, eb, hK, hH, hP, hQ] at this
    exact this
  have HC := hide hc
  have HR := hide hr
  clear ha hb0 va vb hK hH hP hQ hc hr
  go_enter Try.func19, Try.ntmps19
  go_wp2_with fail
  refine (unhide HT _).mono ?_
  rintro e w1 ⟨rfl, hb1⟩
  unfold V
  go_wp2_with fail
  go_region_held3 (fun w' => w'.cell? ⟨w1.heap.size, 0, none⟩ = some (.int .i64 n) ∧ w'.cell? ⟨w1.heap.size, 1, none⟩ = some (.int .u64 (U K)) ∧ w'.cell? ⟨w1.heap.size, 2, none⟩ = some (.int .u64 (U H)) ∧ w'.cell? ⟨w1.heap.size + 1, 0, none⟩ = some (.int .i64 n) ∧ w'.cell? ⟨w1.heap.size + 1, 1, none⟩ = some (.int .u64 (U P)) ∧ w'.cell? ⟨w1.heap.size + 1, 2, none⟩ = some (.int .u64 (U Q))) (first | (go_simp; done) | (refine ⟨?_, ?_, ?_, ?_, ?_, ?_⟩ <;> (refine cell_later hb ?_; go_simp)) | go_keep) (first | (go_at_call 53; refine (iBinaryOps sg _).mono ?_; rintro e w2 ⟨rfl, hcl0, hb⟩; have hbA := hb; have hcl : w2.cell? ⟨w1.heap.size + 1 + 1, 0, none⟩ = some (.bool sg) := (by simpa using hcl0)) | (go_at_call 82; refine (unhide HC _ _ hcl).mono ?_; rintro e w3 ⟨rfl, hb⟩; have hbB := hb; unfold V) | (go_at_call 54; refine (iText _ _ _ hl _).mono ?_; rw [unhide HR]; rintro e w4 ⟨rfl, hb⟩; have hbC := hb))
  go_wp2
  go_ret
  exact ⟨rfl, btr (btr (btr (bdr (bal (bal hb1 _) _)) hbA) hbB) hbC⟩
set_option maxRecDepth 100000 in
set_option maxHeartbeats 800000 in
theorem iBin3 (sg : Bool) (a b : ByteArray) (n l : Nat) (K H P Q A B : BitVec 64) (R : List UInt8) (w : World) (ha : a.size ≤ maxLen) (hb0 : b.size ≤ maxLen) (va : Vb.okV (L a) = true) (vb : Vb.okV (L b) = true) (ea : a.size = n) (eb : b.size = n)
    (hK : Vb.kn (L a) = K) (hH : Vb.wh (L a) = H) (hP : Vb.kn (L b) = P) (hQ : Vb.wh (L b) = Q) (hl : l ≤ 64)
    (hc : ∀ b0 W, W.cell? ⟨b0, 0, none⟩ = some (.bool sg) → Calls Try.prog 83 #[V n K H, V n P Q] W fun e w' => e = .returned (V l A B) ∧ Below W.heap.size W w') (hr : Vb.txt l A B = R) :
    Calls Try.prog 19 #[.int .i64 3, .bool sg, .string a, .string b] w fun e w' => e = .returned (.string (S R)) ∧ Below w.heap.size w w' := by
  have hix : ∀ b0 w, (Instr.index 70 (.agg (bTab b0)) (.int .i64 3)).run Try.prog w = .ok (.func (.func 83) #[] #[]) w := fun _ _ => rfl
  have HT : Hid (∀ W, Calls Try.prog 51 #[.string a, .string b] W fun e w' => e = .returned (.tuple #[V n K H, V n P Q, .bool true]) ∧ Below W.heap.size W w') := fun W => by
    have := iTwoOf a b W ha hb0 va vb
    rw [ea, eb, hK, hH, hP, hQ] at this
    exact this
  have HC := hide hc
  have HR := hide hr
  clear ha hb0 va vb hK hH hP hQ hc hr
  go_enter Try.func19, Try.ntmps19
  go_wp2_with fail
  refine (unhide HT _).mono ?_
  rintro e w1 ⟨rfl, hb1⟩
  unfold V
  go_wp2_with fail
  go_region_held3 (fun w' => w'.cell? ⟨w1.heap.size, 0, none⟩ = some (.int .i64 n) ∧ w'.cell? ⟨w1.heap.size, 1, none⟩ = some (.int .u64 (U K)) ∧ w'.cell? ⟨w1.heap.size, 2, none⟩ = some (.int .u64 (U H)) ∧ w'.cell? ⟨w1.heap.size + 1, 0, none⟩ = some (.int .i64 n) ∧ w'.cell? ⟨w1.heap.size + 1, 1, none⟩ = some (.int .u64 (U P)) ∧ w'.cell? ⟨w1.heap.size + 1, 2, none⟩ = some (.int .u64 (U Q))) (first | (go_simp; done) | (refine ⟨?_, ?_, ?_, ?_, ?_, ?_⟩ <;> (refine cell_later hb ?_; go_simp)) | go_keep) (first | (go_at_call 53; refine (iBinaryOps sg _).mono ?_; rintro e w2 ⟨rfl, hcl0, hb⟩; have hbA := hb; have hcl : w2.cell? ⟨w1.heap.size + 1 + 1, 0, none⟩ = some (.bool sg) := (by simpa using hcl0)) | (go_at_call 83; refine (unhide HC _ _ hcl).mono ?_; rintro e w3 ⟨rfl, hb⟩; have hbB := hb; unfold V) | (go_at_call 54; refine (iText _ _ _ hl _).mono ?_; rw [unhide HR]; rintro e w4 ⟨rfl, hb⟩; have hbC := hb))
  go_wp2
  go_ret
  exact ⟨rfl, btr (btr (btr (bdr (bal (bal hb1 _) _)) hbA) hbB) hbC⟩
set_option maxRecDepth 100000 in
set_option maxHeartbeats 800000 in
theorem iBin4 (sg : Bool) (a b : ByteArray) (n l : Nat) (K H P Q A B : BitVec 64) (R : List UInt8) (w : World) (ha : a.size ≤ maxLen) (hb0 : b.size ≤ maxLen) (va : Vb.okV (L a) = true) (vb : Vb.okV (L b) = true) (ea : a.size = n) (eb : b.size = n)
    (hK : Vb.kn (L a) = K) (hH : Vb.wh (L a) = H) (hP : Vb.kn (L b) = P) (hQ : Vb.wh (L b) = Q) (hl : l ≤ 64)
    (hc : ∀ b0 W, W.cell? ⟨b0, 0, none⟩ = some (.bool sg) → Calls Try.prog 84 #[V n K H, V n P Q] W fun e w' => e = .returned (V l A B) ∧ Below W.heap.size W w') (hr : Vb.txt l A B = R) :
    Calls Try.prog 19 #[.int .i64 4, .bool sg, .string a, .string b] w fun e w' => e = .returned (.string (S R)) ∧ Below w.heap.size w w' := by
  have hix : ∀ b0 w, (Instr.index 70 (.agg (bTab b0)) (.int .i64 4)).run Try.prog w = .ok (.func (.func 84) #[] #[]) w := fun _ _ => rfl
  have HT : Hid (∀ W, Calls Try.prog 51 #[.string a, .string b] W fun e w' => e = .returned (.tuple #[V n K H, V n P Q, .bool true]) ∧ Below W.heap.size W w') := fun W => by
    have := iTwoOf a b W ha hb0 va vb
    rw [ea, eb, hK, hH, hP, hQ] at this
    exact this
  have HC := hide hc
  have HR := hide hr
  clear ha hb0 va vb hK hH hP hQ hc hr
  go_enter Try.func19, Try.ntmps19
  go_wp2_with fail
  refine (unhide HT _).mono ?_
  rintro e w1 ⟨rfl, hb1⟩
  unfold V
  go_wp2_with fail
  go_region_held3 (fun w' => w'.cell? ⟨w1.heap.size, 0, none⟩ = some (.int .i64 n) ∧ w'.cell? ⟨w1.heap.size, 1, none⟩ = some (.int .u64 (U K)) ∧ w'.cell? ⟨w1.heap.size, 2, none⟩ = some (.int .u64 (U H)) ∧ w'.cell? ⟨w1.heap.size + 1, 0, none⟩ = some (.int .i64 n) ∧ w'.cell? ⟨w1.heap.size + 1, 1, none⟩ = some (.int .u64 (U P)) ∧ w'.cell? ⟨w1.heap.size + 1, 2, none⟩ = some (.int .u64 (U Q))) (first | (go_simp; done) | (refine ⟨?_, ?_, ?_, ?_, ?_, ?_⟩ <;> (refine cell_later hb ?_; go_simp)) | go_keep) (first | (go_at_call 53; refine (iBinaryOps sg _).mono ?_; rintro e w2 ⟨rfl, hcl0, hb⟩; have hbA := hb; have hcl : w2.cell? ⟨w1.heap.size + 1 + 1, 0, none⟩ = some (.bool sg) := (by simpa using hcl0)) | (go_at_call 84; refine (unhide HC _ _ hcl).mono ?_; rintro e w3 ⟨rfl, hb⟩; have hbB := hb; unfold V) | (go_at_call 54; refine (iText _ _ _ hl _).mono ?_; rw [unhide HR]; rintro e w4 ⟨rfl, hb⟩; have hbC := hb))
  go_wp2
  go_ret
  exact ⟨rfl, btr (btr (btr (bdr (bal (bal hb1 _) _)) hbA) hbB) hbC⟩
set_option maxRecDepth 100000 in
set_option maxHeartbeats 800000 in
theorem iBin5 (sg : Bool) (a b : ByteArray) (n l : Nat) (K H P Q A B : BitVec 64) (R : List UInt8) (w : World) (ha : a.size ≤ maxLen) (hb0 : b.size ≤ maxLen) (va : Vb.okV (L a) = true) (vb : Vb.okV (L b) = true) (ea : a.size = n) (eb : b.size = n)
    (hK : Vb.kn (L a) = K) (hH : Vb.wh (L a) = H) (hP : Vb.kn (L b) = P) (hQ : Vb.wh (L b) = Q) (hl : l ≤ 64)
    (hc : ∀ b0 W, W.cell? ⟨b0, 0, none⟩ = some (.bool sg) → Calls Try.prog 85 #[V n K H, V n P Q] W fun e w' => e = .returned (V l A B) ∧ Below W.heap.size W w') (hr : Vb.txt l A B = R) :
    Calls Try.prog 19 #[.int .i64 5, .bool sg, .string a, .string b] w fun e w' => e = .returned (.string (S R)) ∧ Below w.heap.size w w' := by
  have hix : ∀ b0 w, (Instr.index 70 (.agg (bTab b0)) (.int .i64 5)).run Try.prog w = .ok (.func (.func 85) #[] #[]) w := fun _ _ => rfl
  have HT : Hid (∀ W, Calls Try.prog 51 #[.string a, .string b] W fun e w' => e = .returned (.tuple #[V n K H, V n P Q, .bool true]) ∧ Below W.heap.size W w') := fun W => by
    have := iTwoOf a b W ha hb0 va vb
    rw [ea, eb, hK, hH, hP, hQ] at this
    exact this
  have HC := hide hc
  have HR := hide hr
  clear ha hb0 va vb hK hH hP hQ hc hr
  go_enter Try.func19, Try.ntmps19
  go_wp2_with fail
  refine (unhide HT _).mono ?_
  rintro e w1 ⟨rfl, hb1⟩
  unfold V
  go_wp2_with fail
  go_region_held3 (fun w' => w'.cell? ⟨w1.heap.size, 0, none⟩ = some (.int .i64 n) ∧ w'.cell? ⟨w1.heap.size, 1, none⟩ = some (.int .u64 (U K)) ∧ w'.cell? ⟨w1.heap.size, 2, none⟩ = some (.int .u64 (U H)) ∧ w'.cell? ⟨w1.heap.size + 1, 0, none⟩ = some (.int .i64 n) ∧ w'.cell? ⟨w1.heap.size + 1, 1, none⟩ = some (.int .u64 (U P)) ∧ w'.cell? ⟨w1.heap.size + 1, 2, none⟩ = some (.int .u64 (U Q))) (first | (go_simp; done) | (refine ⟨?_, ?_, ?_, ?_, ?_, ?_⟩ <;> (refine cell_later hb ?_; go_simp)) | go_keep) (first | (go_at_call 53; refine (iBinaryOps sg _).mono ?_; rintro e w2 ⟨rfl, hcl0, hb⟩; have hbA := hb; have hcl : w2.cell? ⟨w1.heap.size + 1 + 1, 0, none⟩ = some (.bool sg) := (by simpa using hcl0)) | (go_at_call 85; refine (unhide HC _ _ hcl).mono ?_; rintro e w3 ⟨rfl, hb⟩; have hbB := hb; unfold V) | (go_at_call 54; refine (iText _ _ _ hl _).mono ?_; rw [unhide HR]; rintro e w4 ⟨rfl, hb⟩; have hbC := hb))
  go_wp2
  go_ret
  exact ⟨rfl, btr (btr (btr (bdr (bal (bal hb1 _) _)) hbA) hbB) hbC⟩
set_option maxRecDepth 100000 in
set_option maxHeartbeats 800000 in
theorem iBin6 (sg : Bool) (a b : ByteArray) (n l : Nat) (K H P Q A B : BitVec 64) (R : List UInt8) (w : World) (ha : a.size ≤ maxLen) (hb0 : b.size ≤ maxLen) (va : Vb.okV (L a) = true) (vb : Vb.okV (L b) = true) (ea : a.size = n) (eb : b.size = n)
    (hK : Vb.kn (L a) = K) (hH : Vb.wh (L a) = H) (hP : Vb.kn (L b) = P) (hQ : Vb.wh (L b) = Q) (hl : l ≤ 64)
    (hc : ∀ b0 W, W.cell? ⟨b0, 0, none⟩ = some (.bool sg) → Calls Try.prog 86 #[V n K H, V n P Q] W fun e w' => e = .returned (V l A B) ∧ Below W.heap.size W w') (hr : Vb.txt l A B = R) :
    Calls Try.prog 19 #[.int .i64 6, .bool sg, .string a, .string b] w fun e w' => e = .returned (.string (S R)) ∧ Below w.heap.size w w' := by
  have hix : ∀ b0 w, (Instr.index 70 (.agg (bTab b0)) (.int .i64 6)).run Try.prog w = .ok (.func (.func 86) #[] #[]) w := fun _ _ => rfl
  have HT : Hid (∀ W, Calls Try.prog 51 #[.string a, .string b] W fun e w' => e = .returned (.tuple #[V n K H, V n P Q, .bool true]) ∧ Below W.heap.size W w') := fun W => by
    have := iTwoOf a b W ha hb0 va vb
    rw [ea, eb, hK, hH, hP, hQ] at this
    exact this
  have HC := hide hc
  have HR := hide hr
  clear ha hb0 va vb hK hH hP hQ hc hr
  go_enter Try.func19, Try.ntmps19
  go_wp2_with fail
  refine (unhide HT _).mono ?_
  rintro e w1 ⟨rfl, hb1⟩
  unfold V
  go_wp2_with fail
  go_region_held3 (fun w' => w'.cell? ⟨w1.heap.size, 0, none⟩ = some (.int .i64 n) ∧ w'.cell? ⟨w1.heap.size, 1, none⟩ = some (.int .u64 (U K)) ∧ w'.cell? ⟨w1.heap.size, 2, none⟩ = some (.int .u64 (U H)) ∧ w'.cell? ⟨w1.heap.size + 1, 0, none⟩ = some (.int .i64 n) ∧ w'.cell? ⟨w1.heap.size + 1, 1, none⟩ = some (.int .u64 (U P)) ∧ w'.cell? ⟨w1.heap.size + 1, 2, none⟩ = some (.int .u64 (U Q))) (first | (go_simp; done) | (refine ⟨?_, ?_, ?_, ?_, ?_, ?_⟩ <;> (refine cell_later hb ?_; go_simp)) | go_keep) (first | (go_at_call 53; refine (iBinaryOps sg _).mono ?_; rintro e w2 ⟨rfl, hcl0, hb⟩; have hbA := hb; have hcl : w2.cell? ⟨w1.heap.size + 1 + 1, 0, none⟩ = some (.bool sg) := (by simpa using hcl0)) | (go_at_call 86; refine (unhide HC _ _ hcl).mono ?_; rintro e w3 ⟨rfl, hb⟩; have hbB := hb; unfold V) | (go_at_call 54; refine (iText _ _ _ hl _).mono ?_; rw [unhide HR]; rintro e w4 ⟨rfl, hb⟩; have hbC := hb))
  go_wp2
  go_ret
  exact ⟨rfl, btr (btr (btr (bdr (bal (bal hb1 _) _)) hbA) hbB) hbC⟩
set_option maxRecDepth 100000 in
set_option maxHeartbeats 800000 in
theorem iBin7 (sg : Bool) (a b : ByteArray) (n l : Nat) (K H P Q A B : BitVec 64) (R : List UInt8) (w : World) (ha : a.size ≤ maxLen) (hb0 : b.size ≤ maxLen) (va : Vb.okV (L a) = true) (vb : Vb.okV (L b) = true) (ea : a.size = n) (eb : b.size = n)
    (hK : Vb.kn (L a) = K) (hH : Vb.wh (L a) = H) (hP : Vb.kn (L b) = P) (hQ : Vb.wh (L b) = Q) (hl : l ≤ 64)
    (hc : ∀ b0 W, W.cell? ⟨b0, 0, none⟩ = some (.bool sg) → Calls Try.prog 87 #[V n K H, V n P Q, .pointer (some ⟨b0, 0, none⟩)] W fun e w' => e = .returned (V l A B) ∧ Below W.heap.size W w') (hr : Vb.txt l A B = R) :
    Calls Try.prog 19 #[.int .i64 7, .bool sg, .string a, .string b] w fun e w' => e = .returned (.string (S R)) ∧ Below w.heap.size w w' := by
  have hix : ∀ b0 w, (Instr.index 70 (.agg (bTab b0)) (.int .i64 7)).run Try.prog w = .ok (.func (.func 87) #[] #[.pointer (some ⟨b0, 0, none⟩)]) w := fun _ _ => rfl
  have HT : Hid (∀ W, Calls Try.prog 51 #[.string a, .string b] W fun e w' => e = .returned (.tuple #[V n K H, V n P Q, .bool true]) ∧ Below W.heap.size W w') := fun W => by
    have := iTwoOf a b W ha hb0 va vb
    rw [ea, eb, hK, hH, hP, hQ] at this
    exact this
  have HC := hide hc
  have HR := hide hr
  clear ha hb0 va vb hK hH hP hQ hc hr
  go_enter Try.func19, Try.ntmps19
  go_wp2_with fail
  refine (unhide HT _).mono ?_
  rintro e w1 ⟨rfl, hb1⟩
  unfold V
  go_wp2_with fail
  go_region_held3 (fun w' => w'.cell? ⟨w1.heap.size, 0, none⟩ = some (.int .i64 n) ∧ w'.cell? ⟨w1.heap.size, 1, none⟩ = some (.int .u64 (U K)) ∧ w'.cell? ⟨w1.heap.size, 2, none⟩ = some (.int .u64 (U H)) ∧ w'.cell? ⟨w1.heap.size + 1, 0, none⟩ = some (.int .i64 n) ∧ w'.cell? ⟨w1.heap.size + 1, 1, none⟩ = some (.int .u64 (U P)) ∧ w'.cell? ⟨w1.heap.size + 1, 2, none⟩ = some (.int .u64 (U Q))) (first | (go_simp; done) | (refine ⟨?_, ?_, ?_, ?_, ?_, ?_⟩ <;> (refine cell_later hb ?_; go_simp)) | go_keep) (first | (go_at_call 53; refine (iBinaryOps sg _).mono ?_; rintro e w2 ⟨rfl, hcl0, hb⟩; have hbA := hb; have hcl : w2.cell? ⟨w1.heap.size + 1 + 1, 0, none⟩ = some (.bool sg) := (by simpa using hcl0)) | (go_at_call 87; refine (unhide HC _ _ hcl).mono ?_; rintro e w3 ⟨rfl, hb⟩; have hbB := hb; unfold V) | (go_at_call 54; refine (iText _ _ _ hl _).mono ?_; rw [unhide HR]; rintro e w4 ⟨rfl, hb⟩; have hbC := hb))
  go_wp2
  go_ret
  exact ⟨rfl, btr (btr (btr (bdr (bal (bal hb1 _) _)) hbA) hbB) hbC⟩
set_option maxRecDepth 100000 in
set_option maxHeartbeats 800000 in
theorem iBin8 (sg : Bool) (a b : ByteArray) (n l : Nat) (K H P Q A B : BitVec 64) (R : List UInt8) (w : World) (ha : a.size ≤ maxLen) (hb0 : b.size ≤ maxLen) (va : Vb.okV (L a) = true) (vb : Vb.okV (L b) = true) (ea : a.size = n) (eb : b.size = n)
    (hK : Vb.kn (L a) = K) (hH : Vb.wh (L a) = H) (hP : Vb.kn (L b) = P) (hQ : Vb.wh (L b) = Q) (hl : l ≤ 64)
    (hc : ∀ b0 W, W.cell? ⟨b0, 0, none⟩ = some (.bool sg) → Calls Try.prog 89 #[V n K H, V n P Q, .pointer (some ⟨b0, 0, none⟩)] W fun e w' => e = .returned (V l A B) ∧ Below W.heap.size W w') (hr : Vb.txt l A B = R) :
    Calls Try.prog 19 #[.int .i64 8, .bool sg, .string a, .string b] w fun e w' => e = .returned (.string (S R)) ∧ Below w.heap.size w w' := by
  have hix : ∀ b0 w, (Instr.index 70 (.agg (bTab b0)) (.int .i64 8)).run Try.prog w = .ok (.func (.func 89) #[] #[.pointer (some ⟨b0, 0, none⟩)]) w := fun _ _ => rfl
  have HT : Hid (∀ W, Calls Try.prog 51 #[.string a, .string b] W fun e w' => e = .returned (.tuple #[V n K H, V n P Q, .bool true]) ∧ Below W.heap.size W w') := fun W => by
    have := iTwoOf a b W ha hb0 va vb
    rw [ea, eb, hK, hH, hP, hQ] at this
    exact this
  have HC := hide hc
  have HR := hide hr
  clear ha hb0 va vb hK hH hP hQ hc hr
  go_enter Try.func19, Try.ntmps19
  go_wp2_with fail
  refine (unhide HT _).mono ?_
  rintro e w1 ⟨rfl, hb1⟩
  unfold V
  go_wp2_with fail
  go_region_held3 (fun w' => w'.cell? ⟨w1.heap.size, 0, none⟩ = some (.int .i64 n) ∧ w'.cell? ⟨w1.heap.size, 1, none⟩ = some (.int .u64 (U K)) ∧ w'.cell? ⟨w1.heap.size, 2, none⟩ = some (.int .u64 (U H)) ∧ w'.cell? ⟨w1.heap.size + 1, 0, none⟩ = some (.int .i64 n) ∧ w'.cell? ⟨w1.heap.size + 1, 1, none⟩ = some (.int .u64 (U P)) ∧ w'.cell? ⟨w1.heap.size + 1, 2, none⟩ = some (.int .u64 (U Q))) (first | (go_simp; done) | (refine ⟨?_, ?_, ?_, ?_, ?_, ?_⟩ <;> (refine cell_later hb ?_; go_simp)) | go_keep) (first | (go_at_call 53; refine (iBinaryOps sg _).mono ?_; rintro e w2 ⟨rfl, hcl0, hb⟩; have hbA := hb; have hcl : w2.cell? ⟨w1.heap.size + 1 + 1, 0, none⟩ = some (.bool sg) := (by simpa using hcl0)) | (go_at_call 89; refine (unhide HC _ _ hcl).mono ?_; rintro e w3 ⟨rfl, hb⟩; have hbB := hb; unfold V) | (go_at_call 54; refine (iText _ _ _ hl _).mono ?_; rw [unhide HR]; rintro e w4 ⟨rfl, hb⟩; have hbC := hb))
  go_wp2
  go_ret
  exact ⟨rfl, btr (btr (btr (bdr (bal (bal hb1 _) _)) hbA) hbB) hbC⟩
set_option maxRecDepth 100000 in
set_option maxHeartbeats 800000 in
theorem iBin9 (sg : Bool) (a b : ByteArray) (n l : Nat) (K H P Q A B : BitVec 64) (R : List UInt8) (w : World) (ha : a.size ≤ maxLen) (hb0 : b.size ≤ maxLen) (va : Vb.okV (L a) = true) (vb : Vb.okV (L b) = true) (ea : a.size = n) (eb : b.size = n)
    (hK : Vb.kn (L a) = K) (hH : Vb.wh (L a) = H) (hP : Vb.kn (L b) = P) (hQ : Vb.wh (L b) = Q) (hl : l ≤ 64)
    (hc : ∀ b0 W, W.cell? ⟨b0, 0, none⟩ = some (.bool sg) → Calls Try.prog 91 #[V n K H, V n P Q] W fun e w' => e = .returned (V l A B) ∧ Below W.heap.size W w') (hr : Vb.txt l A B = R) :
    Calls Try.prog 19 #[.int .i64 9, .bool sg, .string a, .string b] w fun e w' => e = .returned (.string (S R)) ∧ Below w.heap.size w w' := by
  have hix : ∀ b0 w, (Instr.index 70 (.agg (bTab b0)) (.int .i64 9)).run Try.prog w = .ok (.func (.func 91) #[] #[]) w := fun _ _ => rfl
  have HT : Hid (∀ W, Calls Try.prog 51 #[.string a, .string b] W fun e w' => e = .returned (.tuple #[V n K H, V n P Q, .bool true]) ∧ Below W.heap.size W w') := fun W => by
    have := iTwoOf a b W ha hb0 va vb
    rw [ea, eb, hK, hH, hP, hQ] at this
    exact this
  have HC := hide hc
  have HR := hide hr
  clear ha hb0 va vb hK hH hP hQ hc hr
  go_enter Try.func19, Try.ntmps19
  go_wp2_with fail
  refine (unhide HT _).mono ?_
  rintro e w1 ⟨rfl, hb1⟩
  unfold V
  go_wp2_with fail
  go_region_held3 (fun w' => w'.cell? ⟨w1.heap.size, 0, none⟩ = some (.int .i64 n) ∧ w'.cell? ⟨w1.heap.size, 1, none⟩ = some (.int .u64 (U K)) ∧ w'.cell? ⟨w1.heap.size, 2, none⟩ = some (.int .u64 (U H)) ∧ w'.cell? ⟨w1.heap.size + 1, 0, none⟩ = some (.int .i64 n) ∧ w'.cell? ⟨w1.heap.size + 1, 1, none⟩ = some (.int .u64 (U P)) ∧ w'.cell? ⟨w1.heap.size + 1, 2, none⟩ = some (.int .u64 (U Q))) (first | (go_simp; done) | (refine ⟨?_, ?_, ?_, ?_, ?_, ?_⟩ <;> (refine cell_later hb ?_; go_simp)) | go_keep) (first | (go_at_call 53; refine (iBinaryOps sg _).mono ?_; rintro e w2 ⟨rfl, hcl0, hb⟩; have hbA := hb; have hcl : w2.cell? ⟨w1.heap.size + 1 + 1, 0, none⟩ = some (.bool sg) := (by simpa using hcl0)) | (go_at_call 91; refine (unhide HC _ _ hcl).mono ?_; rintro e w3 ⟨rfl, hb⟩; have hbB := hb; unfold V) | (go_at_call 54; refine (iText _ _ _ hl _).mono ?_; rw [unhide HR]; rintro e w4 ⟨rfl, hb⟩; have hbC := hb))
  go_wp2
  go_ret
  exact ⟨rfl, btr (btr (btr (bdr (bal (bal hb1 _) _)) hbA) hbB) hbC⟩
set_option maxRecDepth 100000 in
set_option maxHeartbeats 800000 in
theorem iBin10 (sg : Bool) (a b : ByteArray) (n l : Nat) (K H P Q A B : BitVec 64) (R : List UInt8) (w : World) (ha : a.size ≤ maxLen) (hb0 : b.size ≤ maxLen) (va : Vb.okV (L a) = true) (vb : Vb.okV (L b) = true) (ea : a.size = n) (eb : b.size = n)
    (hK : Vb.kn (L a) = K) (hH : Vb.wh (L a) = H) (hP : Vb.kn (L b) = P) (hQ : Vb.wh (L b) = Q) (hl : l ≤ 64)
    (hc : ∀ b0 W, W.cell? ⟨b0, 0, none⟩ = some (.bool sg) → Calls Try.prog 92 #[V n K H, V n P Q] W fun e w' => e = .returned (V l A B) ∧ Below W.heap.size W w') (hr : Vb.txt l A B = R) :
    Calls Try.prog 19 #[.int .i64 10, .bool sg, .string a, .string b] w fun e w' => e = .returned (.string (S R)) ∧ Below w.heap.size w w' := by
  have hix : ∀ b0 w, (Instr.index 70 (.agg (bTab b0)) (.int .i64 10)).run Try.prog w = .ok (.func (.func 92) #[] #[]) w := fun _ _ => rfl
  have HT : Hid (∀ W, Calls Try.prog 51 #[.string a, .string b] W fun e w' => e = .returned (.tuple #[V n K H, V n P Q, .bool true]) ∧ Below W.heap.size W w') := fun W => by
    have := iTwoOf a b W ha hb0 va vb
    rw [ea, eb, hK, hH, hP, hQ] at this
    exact this
  have HC := hide hc
  have HR := hide hr
  clear ha hb0 va vb hK hH hP hQ hc hr
  go_enter Try.func19, Try.ntmps19
  go_wp2_with fail
  refine (unhide HT _).mono ?_
  rintro e w1 ⟨rfl, hb1⟩
  unfold V
  go_wp2_with fail
  go_region_held3 (fun w' => w'.cell? ⟨w1.heap.size, 0, none⟩ = some (.int .i64 n) ∧ w'.cell? ⟨w1.heap.size, 1, none⟩ = some (.int .u64 (U K)) ∧ w'.cell? ⟨w1.heap.size, 2, none⟩ = some (.int .u64 (U H)) ∧ w'.cell? ⟨w1.heap.size + 1, 0, none⟩ = some (.int .i64 n) ∧ w'.cell? ⟨w1.heap.size + 1, 1, none⟩ = some (.int .u64 (U P)) ∧ w'.cell? ⟨w1.heap.size + 1, 2, none⟩ = some (.int .u64 (U Q))) (first | (go_simp; done) | (refine ⟨?_, ?_, ?_, ?_, ?_, ?_⟩ <;> (refine cell_later hb ?_; go_simp)) | go_keep) (first | (go_at_call 53; refine (iBinaryOps sg _).mono ?_; rintro e w2 ⟨rfl, hcl0, hb⟩; have hbA := hb; have hcl : w2.cell? ⟨w1.heap.size + 1 + 1, 0, none⟩ = some (.bool sg) := (by simpa using hcl0)) | (go_at_call 92; refine (unhide HC _ _ hcl).mono ?_; rintro e w3 ⟨rfl, hb⟩; have hbB := hb; unfold V) | (go_at_call 54; refine (iText _ _ _ hl _).mono ?_; rw [unhide HR]; rintro e w4 ⟨rfl, hb⟩; have hbC := hb))
  go_wp2
  go_ret
  exact ⟨rfl, btr (btr (btr (bdr (bal (bal hb1 _) _)) hbA) hbB) hbC⟩
set_option maxRecDepth 100000 in
set_option maxHeartbeats 800000 in
theorem iBin11 (sg : Bool) (a b : ByteArray) (n l : Nat) (K H P Q A B : BitVec 64) (R : List UInt8) (w : World) (ha : a.size ≤ maxLen) (hb0 : b.size ≤ maxLen) (va : Vb.okV (L a) = true) (vb : Vb.okV (L b) = true) (ea : a.size = n) (eb : b.size = n)
    (hK : Vb.kn (L a) = K) (hH : Vb.wh (L a) = H) (hP : Vb.kn (L b) = P) (hQ : Vb.wh (L b) = Q) (hl : l ≤ 64)
    (hc : ∀ b0 W, W.cell? ⟨b0, 0, none⟩ = some (.bool sg) → Calls Try.prog 93 #[V n K H, V n P Q] W fun e w' => e = .returned (V l A B) ∧ Below W.heap.size W w') (hr : Vb.txt l A B = R) :
    Calls Try.prog 19 #[.int .i64 11, .bool sg, .string a, .string b] w fun e w' => e = .returned (.string (S R)) ∧ Below w.heap.size w w' := by
  have hix : ∀ b0 w, (Instr.index 70 (.agg (bTab b0)) (.int .i64 11)).run Try.prog w = .ok (.func (.func 93) #[] #[]) w := fun _ _ => rfl
  have HT : Hid (∀ W, Calls Try.prog 51 #[.string a, .string b] W fun e w' => e = .returned (.tuple #[V n K H, V n P Q, .bool true]) ∧ Below W.heap.size W w') := fun W => by
    have := iTwoOf a b W ha hb0 va vb
    rw [ea, eb, hK, hH, hP, hQ] at this
    exact this
  have HC := hide hc
  have HR := hide hr
  clear ha hb0 va vb hK hH hP hQ hc hr
  go_enter Try.func19, Try.ntmps19
  go_wp2_with fail
  refine (unhide HT _).mono ?_
  rintro e w1 ⟨rfl, hb1⟩
  unfold V
  go_wp2_with fail
  go_region_held3 (fun w' => w'.cell? ⟨w1.heap.size, 0, none⟩ = some (.int .i64 n) ∧ w'.cell? ⟨w1.heap.size, 1, none⟩ = some (.int .u64 (U K)) ∧ w'.cell? ⟨w1.heap.size, 2, none⟩ = some (.int .u64 (U H)) ∧ w'.cell? ⟨w1.heap.size + 1, 0, none⟩ = some (.int .i64 n) ∧ w'.cell? ⟨w1.heap.size + 1, 1, none⟩ = some (.int .u64 (U P)) ∧ w'.cell? ⟨w1.heap.size + 1, 2, none⟩ = some (.int .u64 (U Q))) (first | (go_simp; done) | (refine ⟨?_, ?_, ?_, ?_, ?_, ?_⟩ <;> (refine cell_later hb ?_; go_simp)) | go_keep) (first | (go_at_call 53; refine (iBinaryOps sg _).mono ?_; rintro e w2 ⟨rfl, hcl0, hb⟩; have hbA := hb; have hcl : w2.cell? ⟨w1.heap.size + 1 + 1, 0, none⟩ = some (.bool sg) := (by simpa using hcl0)) | (go_at_call 93; refine (unhide HC _ _ hcl).mono ?_; rintro e w3 ⟨rfl, hb⟩; have hbB := hb; unfold V) | (go_at_call 54; refine (iText _ _ _ hl _).mono ?_; rw [unhide HR]; rintro e w4 ⟨rfl, hb⟩; have hbC := hb))
  go_wp2
  go_ret
  exact ⟨rfl, btr (btr (btr (bdr (bal (bal hb1 _) _)) hbA) hbB) hbC⟩
set_option maxRecDepth 100000 in
set_option maxHeartbeats 800000 in
theorem iBin12 (sg : Bool) (a b : ByteArray) (n l : Nat) (K H P Q A B : BitVec 64) (R : List UInt8) (w : World) (ha : a.size ≤ maxLen) (hb0 : b.size ≤ maxLen) (va : Vb.okV (L a) = true) (vb : Vb.okV (L b) = true) (ea : a.size = n) (eb : b.size = n)
    (hK : Vb.kn (L a) = K) (hH : Vb.wh (L a) = H) (hP : Vb.kn (L b) = P) (hQ : Vb.wh (L b) = Q) (hl : l ≤ 64)
    (hc : ∀ b0 W, W.cell? ⟨b0, 0, none⟩ = some (.bool sg) → Calls Try.prog 94 #[V n K H, V n P Q, .pointer (some ⟨b0, 0, none⟩)] W fun e w' => e = .returned (V l A B) ∧ Below W.heap.size W w') (hr : Vb.txt l A B = R) :
    Calls Try.prog 19 #[.int .i64 12, .bool sg, .string a, .string b] w fun e w' => e = .returned (.string (S R)) ∧ Below w.heap.size w w' := by
  have hix : ∀ b0 w, (Instr.index 70 (.agg (bTab b0)) (.int .i64 12)).run Try.prog w = .ok (.func (.func 94) #[] #[.pointer (some ⟨b0, 0, none⟩)]) w := fun _ _ => rfl
  have HT : Hid (∀ W, Calls Try.prog 51 #[.string a, .string b] W fun e w' => e = .returned (.tuple #[V n K H, V n P Q, .bool true]) ∧ Below W.heap.size W w') := fun W => by
    have := iTwoOf a b W ha hb0 va vb
    rw [ea, eb, hK, hH, hP, hQ] at this
    exact this
  have HC := hide hc
  have HR := hide hr
  clear ha hb0 va vb hK hH hP hQ hc hr
  go_enter Try.func19, Try.ntmps19
  go_wp2_with fail
  refine (unhide HT _).mono ?_
  rintro e w1 ⟨rfl, hb1⟩
  unfold V
  go_wp2_with fail
  go_region_held3 (fun w' => w'.cell? ⟨w1.heap.size, 0, none⟩ = some (.int .i64 n) ∧ w'.cell? ⟨w1.heap.size, 1, none⟩ = some (.int .u64 (U K)) ∧ w'.cell? ⟨w1.heap.size, 2, none⟩ = some (.int .u64 (U H)) ∧ w'.cell? ⟨w1.heap.size + 1, 0, none⟩ = some (.int .i64 n) ∧ w'.cell? ⟨w1.heap.size + 1, 1, none⟩ = some (.int .u64 (U P)) ∧ w'.cell? ⟨w1.heap.size + 1, 2, none⟩ = some (.int .u64 (U Q))) (first | (go_simp; done) | (refine ⟨?_, ?_, ?_, ?_, ?_, ?_⟩ <;> (refine cell_later hb ?_; go_simp)) | go_keep) (first | (go_at_call 53; refine (iBinaryOps sg _).mono ?_; rintro e w2 ⟨rfl, hcl0, hb⟩; have hbA := hb; have hcl : w2.cell? ⟨w1.heap.size + 1 + 1, 0, none⟩ = some (.bool sg) := (by simpa using hcl0)) | (go_at_call 94; refine (unhide HC _ _ hcl).mono ?_; rintro e w3 ⟨rfl, hb⟩; have hbB := hb; unfold V) | (go_at_call 54; refine (iText _ _ _ hl _).mono ?_; rw [unhide HR]; rintro e w4 ⟨rfl, hb⟩; have hbC := hb))
  go_wp2
  go_ret
  exact ⟨rfl, btr (btr (btr (bdr (bal (bal hb1 _) _)) hbA) hbB) hbC⟩
set_option maxRecDepth 100000 in
set_option maxHeartbeats 800000 in
theorem iBin13 (sg : Bool) (a b : ByteArray) (n l : Nat) (K H P Q A B : BitVec 64) (R : List UInt8) (w : World) (ha : a.size ≤ maxLen) (hb0 : b.size ≤ maxLen) (va : Vb.okV (L a) = true) (vb : Vb.okV (L b) = true) (ea : a.size = n) (eb : b.size = n)
    (hK : Vb.kn (L a) = K) (hH : Vb.wh (L a) = H) (hP : Vb.kn (L b) = P) (hQ : Vb.wh (L b) = Q) (hl : l ≤ 64)
    (hc : ∀ b0 W, W.cell? ⟨b0, 0, none⟩ = some (.bool sg) → Calls Try.prog 96 #[V n K H, V n P Q, .pointer (some ⟨b0, 0, none⟩)] W fun e w' => e = .returned (V l A B) ∧ Below W.heap.size W w') (hr : Vb.txt l A B = R) :
    Calls Try.prog 19 #[.int .i64 13, .bool sg, .string a, .string b] w fun e w' => e = .returned (.string (S R)) ∧ Below w.heap.size w w' := by
  have hix : ∀ b0 w, (Instr.index 70 (.agg (bTab b0)) (.int .i64 13)).run Try.prog w = .ok (.func (.func 96) #[] #[.pointer (some ⟨b0, 0, none⟩)]) w := fun _ _ => rfl
  have HT : Hid (∀ W, Calls Try.prog 51 #[.string a, .string b] W fun e w' => e = .returned (.tuple #[V n K H, V n P Q, .bool true]) ∧ Below W.heap.size W w') := fun W => by
    have := iTwoOf a b W ha hb0 va vb
    rw [ea, eb, hK, hH, hP, hQ] at this
    exact this
  have HC := hide hc
  have HR := hide hr
  clear ha hb0 va vb hK hH hP hQ hc hr
  go_enter Try.func19, Try.ntmps19
  go_wp2_with fail
  refine (unhide HT _).mono ?_
  rintro e w1 ⟨rfl, hb1⟩
  unfold V
  go_wp2_with fail
  go_region_held3 (fun w' => w'.cell? ⟨w1.heap.size, 0, none⟩ = some (.int .i64 n) ∧ w'.cell? ⟨w1.heap.size, 1, none⟩ = some (.int .u64 (U K)) ∧ w'.cell? ⟨w1.heap.size, 2, none⟩ = some (.int .u64 (U H)) ∧ w'.cell? ⟨w1.heap.size + 1, 0, none⟩ = some (.int .i64 n) ∧ w'.cell? ⟨w1.heap.size + 1, 1, none⟩ = some (.int .u64 (U P)) ∧ w'.cell? ⟨w1.heap.size + 1, 2, none⟩ = some (.int .u64 (U Q))) (first | (go_simp; done) | (refine ⟨?_, ?_, ?_, ?_, ?_, ?_⟩ <;> (refine cell_later hb ?_; go_simp)) | go_keep) (first | (go_at_call 53; refine (iBinaryOps sg _).mono ?_; rintro e w2 ⟨rfl, hcl0, hb⟩; have hbA := hb; have hcl : w2.cell? ⟨w1.heap.size + 1 + 1, 0, none⟩ = some (.bool sg) := (by simpa using hcl0)) | (go_at_call 96; refine (unhide HC _ _ hcl).mono ?_; rintro e w3 ⟨rfl, hb⟩; have hbB := hb; unfold V) | (go_at_call 54; refine (iText _ _ _ hl _).mono ?_; rw [unhide HR]; rintro e w4 ⟨rfl, hb⟩; have hbC := hb))
  go_wp2
  go_ret
  exact ⟨rfl, btr (btr (btr (bdr (bal (bal hb1 _) _)) hbA) hbB) hbC⟩
end Go.Proofs.Ytmbllgblbdfobaa
