/- What the program's kidsFit answers of plain kinds. What the program's kidsFit answers of more plain kinds. What the program's kidsFit answers of the other kinds with a number of kids. -/
import Derived.Test.YtlcpmbdckmdabaaGreatDoorNHX
namespace Go.Proofs.YtlcpmbdckmdabaaGreatDoor
open Go.RowKit Nt
set_option linter.unusedVariables false
set_option maxRecDepth 100000
theorem kf4 (n : Nd) (v : Value) (w : World) (hr : RdK w n.kids v) (hk : n.kind = 4) :
    Calls Tryz.prog 19 #[ndV n v] w fun e w' => e = .returned (.bool (fitK n.kids [expK])) ∧ Below w.heap.size w w' := by
  have K1 : Hid (∀ (W : World) (b : Nat), b = W.heap.size → RdK W n.kids v → Calls Tryz.prog 29 #[v, .slice (some ⟨b, 0, none⟩) 1 1] (W.alloc (Obj.cells #[.int .u64 281406257233920] 49)) fun e w' => e = .returned (.bool (fitK n.kids [expK])) ∧ Below W.heap.size W w') := hide (fun W b hb hr' => fitCall n.kids [expK] v W b (by decide) (by decide) hb hr')
  have HR := hide hr
  obtain ⟨a0, c0, hv0⟩ := RdK_slice hr
  subst hv0
  unfold ndV
  rw [hk]
  clear hr
  generalize n.text = xt at *
  generalize fitK n.kids [expK] = r at *
  go_enter Tryz.func19, Tryz.ntmps19
  go_wp2_with (go_at_call 29; refine (unhide K1 (w.alloc _) _ (by simp) (RdK_later (bal (brf w) _) (unhide HR))).mono ?_; rintro e v1 ⟨rfl, hb1⟩)
  go_ret
  exact ⟨rfl, btr (bal (brf w) _) hb1⟩
theorem kf12 (n : Nd) (v : Value) (w : World) (hr : RdK w n.kids v) (hk : n.kind = 12) :
    Calls Tryz.prog 19 #[ndV n v] w fun e w' => e = .returned (.bool (fitK n.kids [expK])) ∧ Below w.heap.size w w' := by
  have K1 : Hid (∀ (W : World) (b : Nat), b = W.heap.size → RdK W n.kids v → Calls Tryz.prog 29 #[v, .slice (some ⟨b, 0, none⟩) 1 1] (W.alloc (Obj.cells #[.int .u64 281406257233920] 49)) fun e w' => e = .returned (.bool (fitK n.kids [expK])) ∧ Below W.heap.size W w') := hide (fun W b hb hr' => fitCall n.kids [expK] v W b (by decide) (by decide) hb hr')
  have HR := hide hr
  obtain ⟨a0, c0, hv0⟩ := RdK_slice hr
  subst hv0
  unfold ndV
  rw [hk]
  clear hr
  generalize n.text = xt at *
  generalize fitK n.kids [expK] = r at *
  go_enter Tryz.func19, Tryz.ntmps19
  go_wp2_with (go_at_call 29; refine (unhide K1 (w.alloc _) _ (by simp) (RdK_later (bal (brf w) _) (unhide HR))).mono ?_; rintro e v1 ⟨rfl, hb1⟩)
  go_ret
  exact ⟨rfl, btr (bal (brf w) _) hb1⟩
theorem kf18 (n : Nd) (v : Value) (w : World) (hr : RdK w n.kids v) (hk : n.kind = 18) :
    Calls Tryz.prog 19 #[ndV n v] w fun e w' => e = .returned (.bool (fitK n.kids [expK])) ∧ Below w.heap.size w w' := by
  have K1 : Hid (∀ (W : World) (b : Nat), b = W.heap.size → RdK W n.kids v → Calls Tryz.prog 29 #[v, .slice (some ⟨b, 0, none⟩) 1 1] (W.alloc (Obj.cells #[.int .u64 281406257233920] 49)) fun e w' => e = .returned (.bool (fitK n.kids [expK])) ∧ Below W.heap.size W w') := hide (fun W b hb hr' => fitCall n.kids [expK] v W b (by decide) (by decide) hb hr')
  have HR := hide hr
  obtain ⟨a0, c0, hv0⟩ := RdK_slice hr
  subst hv0
  unfold ndV
  rw [hk]
  clear hr
  generalize n.text = xt at *
  generalize fitK n.kids [expK] = r at *
  go_enter Tryz.func19, Tryz.ntmps19
  go_wp2_with (go_at_call 29; refine (unhide K1 (w.alloc _) _ (by simp) (RdK_later (bal (brf w) _) (unhide HR))).mono ?_; rintro e v1 ⟨rfl, hb1⟩)
  go_ret
  exact ⟨rfl, btr (bal (brf w) _) hb1⟩
theorem kf25 (n : Nd) (v : Value) (w : World) (hr : RdK w n.kids v) (hk : n.kind = 25) :
    Calls Tryz.prog 19 #[ndV n v] w fun e w' => e = .returned (.bool (fitK n.kids [expK])) ∧ Below w.heap.size w w' := by
  have K1 : Hid (∀ (W : World) (b : Nat), b = W.heap.size → RdK W n.kids v → Calls Tryz.prog 29 #[v, .slice (some ⟨b, 0, none⟩) 1 1] (W.alloc (Obj.cells #[.int .u64 281406257233920] 49)) fun e w' => e = .returned (.bool (fitK n.kids [expK])) ∧ Below W.heap.size W w') := hide (fun W b hb hr' => fitCall n.kids [expK] v W b (by decide) (by decide) hb hr')
  have HR := hide hr
  obtain ⟨a0, c0, hv0⟩ := RdK_slice hr
  subst hv0
  unfold ndV
  rw [hk]
  clear hr
  generalize n.text = xt at *
  generalize fitK n.kids [expK] = r at *
  go_enter Tryz.func19, Tryz.ntmps19
  go_wp2_with (go_at_call 29; refine (unhide K1 (w.alloc _) _ (by simp) (RdK_later (bal (brf w) _) (unhide HR))).mono ?_; rintro e v1 ⟨rfl, hb1⟩)
  go_ret
  exact ⟨rfl, btr (bal (brf w) _) hb1⟩
theorem kf34 (n : Nd) (v : Value) (w : World) (hr : RdK w n.kids v) (hk : n.kind = 34) :
    Calls Tryz.prog 19 #[ndV n v] w fun e w' => e = .returned (.bool (fitK n.kids [expK])) ∧ Below w.heap.size w w' := by
  have K1 : Hid (∀ (W : World) (b : Nat), b = W.heap.size → RdK W n.kids v → Calls Tryz.prog 29 #[v, .slice (some ⟨b, 0, none⟩) 1 1] (W.alloc (Obj.cells #[.int .u64 281406257233920] 49)) fun e w' => e = .returned (.bool (fitK n.kids [expK])) ∧ Below W.heap.size W w') := hide (fun W b hb hr' => fitCall n.kids [expK] v W b (by decide) (by decide) hb hr')
  have HR := hide hr
  obtain ⟨a0, c0, hv0⟩ := RdK_slice hr
  subst hv0
  unfold ndV
  rw [hk]
  clear hr
  generalize n.text = xt at *
  generalize fitK n.kids [expK] = r at *
  go_enter Tryz.func19, Tryz.ntmps19
  go_wp2_with (go_at_call 29; refine (unhide K1 (w.alloc _) _ (by simp) (RdK_later (bal (brf w) _) (unhide HR))).mono ?_; rintro e v1 ⟨rfl, hb1⟩)
  go_ret
  exact ⟨rfl, btr (bal (brf w) _) hb1⟩
theorem kf38 (n : Nd) (v : Value) (w : World) (hr : RdK w n.kids v) (hk : n.kind = 38) :
    Calls Tryz.prog 19 #[ndV n v] w fun e w' => e = .returned (.bool (fitK n.kids [expK])) ∧ Below w.heap.size w w' := by
  have K1 : Hid (∀ (W : World) (b : Nat), b = W.heap.size → RdK W n.kids v → Calls Tryz.prog 29 #[v, .slice (some ⟨b, 0, none⟩) 1 1] (W.alloc (Obj.cells #[.int .u64 281406257233920] 49)) fun e w' => e = .returned (.bool (fitK n.kids [expK])) ∧ Below W.heap.size W w') := hide (fun W b hb hr' => fitCall n.kids [expK] v W b (by decide) (by decide) hb hr')
  have HR := hide hr
  obtain ⟨a0, c0, hv0⟩ := RdK_slice hr
  subst hv0
  unfold ndV
  rw [hk]
  clear hr
  generalize n.text = xt at *
  generalize fitK n.kids [expK] = r at *
  go_enter Tryz.func19, Tryz.ntmps19
  go_wp2_with (go_at_call 29; refine (unhide K1 (w.alloc _) _ (by simp) (RdK_later (bal (brf w) _) (unhide HR))).mono ?_; rintro e v1 ⟨rfl, hb1⟩)
  go_ret
  exact ⟨rfl, btr (bal (brf w) _) hb1⟩
theorem kf43 (n : Nd) (v : Value) (w : World) (hr : RdK w n.kids v) (hk : n.kind = 43) :
    Calls Tryz.prog 19 #[ndV n v] w fun e w' => e = .returned (.bool (fitK n.kids [expK])) ∧ Below w.heap.size w w' := by
  have K1 : Hid (∀ (W : World) (b : Nat), b = W.heap.size → RdK W n.kids v → Calls Tryz.prog 29 #[v, .slice (some ⟨b, 0, none⟩) 1 1] (W.alloc (Obj.cells #[.int .u64 281406257233920] 49)) fun e w' => e = .returned (.bool (fitK n.kids [expK])) ∧ Below W.heap.size W w') := hide (fun W b hb hr' => fitCall n.kids [expK] v W b (by decide) (by decide) hb hr')
  have HR := hide hr
  obtain ⟨a0, c0, hv0⟩ := RdK_slice hr
  subst hv0
  unfold ndV
  rw [hk]
  clear hr
  generalize n.text = xt at *
  generalize fitK n.kids [expK] = r at *
  go_enter Tryz.func19, Tryz.ntmps19
  go_wp2_with (go_at_call 29; refine (unhide K1 (w.alloc _) _ (by simp) (RdK_later (bal (brf w) _) (unhide HR))).mono ?_; rintro e v1 ⟨rfl, hb1⟩)
  go_ret
  exact ⟨rfl, btr (bal (brf w) _) hb1⟩
theorem kf44 (n : Nd) (v : Value) (w : World) (hr : RdK w n.kids v) (hk : n.kind = 44) :
    Calls Tryz.prog 19 #[ndV n v] w fun e w' => e = .returned (.bool (fitK n.kids [expK])) ∧ Below w.heap.size w w' := by
  have K1 : Hid (∀ (W : World) (b : Nat), b = W.heap.size → RdK W n.kids v → Calls Tryz.prog 29 #[v, .slice (some ⟨b, 0, none⟩) 1 1] (W.alloc (Obj.cells #[.int .u64 281406257233920] 49)) fun e w' => e = .returned (.bool (fitK n.kids [expK])) ∧ Below W.heap.size W w') := hide (fun W b hb hr' => fitCall n.kids [expK] v W b (by decide) (by decide) hb hr')
  have HR := hide hr
  obtain ⟨a0, c0, hv0⟩ := RdK_slice hr
  subst hv0
  unfold ndV
  rw [hk]
  clear hr
  generalize n.text = xt at *
  generalize fitK n.kids [expK] = r at *
  go_enter Tryz.func19, Tryz.ntmps19
  go_wp2_with (go_at_call 29; refine (unhide K1 (w.alloc _) _ (by simp) (RdK_later (bal (brf w) _) (unhide HR))).mono ?_; rintro e v1 ⟨rfl, hb1⟩)
  go_ret
  exact ⟨rfl, btr (bal (brf w) _) hb1⟩
theorem kf45 (n : Nd) (v : Value) (w : World) (hr : RdK w n.kids v) (hk : n.kind = 45) :
    Calls Tryz.prog 19 #[ndV n v] w fun e w' => e = .returned (.bool (fitK n.kids [expK])) ∧ Below w.heap.size w w' := by
  have K1 : Hid (∀ (W : World) (b : Nat), b = W.heap.size → RdK W n.kids v → Calls Tryz.prog 29 #[v, .slice (some ⟨b, 0, none⟩) 1 1] (W.alloc (Obj.cells #[.int .u64 281406257233920] 49)) fun e w' => e = .returned (.bool (fitK n.kids [expK])) ∧ Below W.heap.size W w') := hide (fun W b hb hr' => fitCall n.kids [expK] v W b (by decide) (by decide) hb hr')
  have HR := hide hr
  obtain ⟨a0, c0, hv0⟩ := RdK_slice hr
  subst hv0
  unfold ndV
  rw [hk]
  clear hr
  generalize n.text = xt at *
  generalize fitK n.kids [expK] = r at *
  go_enter Tryz.func19, Tryz.ntmps19
  go_wp2_with (go_at_call 29; refine (unhide K1 (w.alloc _) _ (by simp) (RdK_later (bal (brf w) _) (unhide HR))).mono ?_; rintro e v1 ⟨rfl, hb1⟩)
  go_ret
  exact ⟨rfl, btr (bal (brf w) _) hb1⟩
theorem kf39 (n : Nd) (v : Value) (w : World) (hr : RdK w n.kids v) (hk : n.kind = 39) :
    Calls Tryz.prog 19 #[ndV n v] w fun e w' => e = .returned (.bool (fitK n.kids [expK, expK])) ∧ Below w.heap.size w w' := by
  have K1 : Hid (∀ (W : World) (b : Nat), b = W.heap.size → RdK W n.kids v → Calls Tryz.prog 29 #[v, .slice (some ⟨b, 0, none⟩) 2 2] (W.alloc (Obj.cells #[.int .u64 281406257233920, .int .u64 281406257233920] 49)) fun e w' => e = .returned (.bool (fitK n.kids [expK, expK])) ∧ Below W.heap.size W w') := hide (fun W b hb hr' => fitCall n.kids [expK, expK] v W b (by decide) (by decide) hb hr')
  have HR := hide hr
  obtain ⟨a0, c0, hv0⟩ := RdK_slice hr
  subst hv0
  unfold ndV
  rw [hk]
  clear hr
  generalize n.text = xt at *
  generalize fitK n.kids [expK, expK] = r at *
  go_enter Tryz.func19, Tryz.ntmps19
  go_wp2_with (go_at_call 29; refine (unhide K1 (w.alloc _) _ (by simp) (RdK_later (bal (brf w) _) (unhide HR))).mono ?_; rintro e v1 ⟨rfl, hb1⟩)
  go_ret
  exact ⟨rfl, btr (bal (brf w) _) hb1⟩
theorem kf42 (n : Nd) (v : Value) (w : World) (hr : RdK w n.kids v) (hk : n.kind = 42) :
    Calls Tryz.prog 19 #[ndV n v] w fun e w' => e = .returned (.bool (fitK n.kids [expK, expK])) ∧ Below w.heap.size w w' := by
  have K1 : Hid (∀ (W : World) (b : Nat), b = W.heap.size → RdK W n.kids v → Calls Tryz.prog 29 #[v, .slice (some ⟨b, 0, none⟩) 2 2] (W.alloc (Obj.cells #[.int .u64 281406257233920, .int .u64 281406257233920] 49)) fun e w' => e = .returned (.bool (fitK n.kids [expK, expK])) ∧ Below W.heap.size W w') := hide (fun W b hb hr' => fitCall n.kids [expK, expK] v W b (by decide) (by decide) hb hr')
  have HR := hide hr
  obtain ⟨a0, c0, hv0⟩ := RdK_slice hr
  subst hv0
  unfold ndV
  rw [hk]
  clear hr
  generalize n.text = xt at *
  generalize fitK n.kids [expK, expK] = r at *
  go_enter Tryz.func19, Tryz.ntmps19
  go_wp2_with (go_at_call 29; refine (unhide K1 (w.alloc _) _ (by simp) (RdK_later (bal (brf w) _) (unhide HR))).mono ?_; rintro e v1 ⟨rfl, hb1⟩)
  go_ret
  exact ⟨rfl, btr (bal (brf w) _) hb1⟩
theorem kf46 (n : Nd) (v : Value) (w : World) (hr : RdK w n.kids v) (hk : n.kind = 46) :
    Calls Tryz.prog 19 #[ndV n v] w fun e w' => e = .returned (.bool (fitK n.kids [expK, expK])) ∧ Below w.heap.size w w' := by
  have K1 : Hid (∀ (W : World) (b : Nat), b = W.heap.size → RdK W n.kids v → Calls Tryz.prog 29 #[v, .slice (some ⟨b, 0, none⟩) 2 2] (W.alloc (Obj.cells #[.int .u64 281406257233920, .int .u64 281406257233920] 49)) fun e w' => e = .returned (.bool (fitK n.kids [expK, expK])) ∧ Below W.heap.size W w') := hide (fun W b hb hr' => fitCall n.kids [expK, expK] v W b (by decide) (by decide) hb hr')
  have HR := hide hr
  obtain ⟨a0, c0, hv0⟩ := RdK_slice hr
  subst hv0
  unfold ndV
  rw [hk]
  clear hr
  generalize n.text = xt at *
  generalize fitK n.kids [expK, expK] = r at *
  go_enter Tryz.func19, Tryz.ntmps19
  go_wp2_with (go_at_call 29; refine (unhide K1 (w.alloc _) _ (by simp) (RdK_later (bal (brf w) _) (unhide HR))).mono ?_; rintro e v1 ⟨rfl, hb1⟩)
  go_ret
  exact ⟨rfl, btr (bal (brf w) _) hb1⟩
theorem kf47 (n : Nd) (v : Value) (w : World) (hr : RdK w n.kids v) (hk : n.kind = 47) :
    Calls Tryz.prog 19 #[ndV n v] w fun e w' => e = .returned (.bool (fitK n.kids [expK, expK, expK])) ∧ Below w.heap.size w w' := by
  have K1 : Hid (∀ (W : World) (b : Nat), b = W.heap.size → RdK W n.kids v → Calls Tryz.prog 29 #[v, .slice (some ⟨b, 0, none⟩) 3 3] (W.alloc (Obj.cells #[.int .u64 281406257233920, .int .u64 281406257233920, .int .u64 281406257233920] 49)) fun e w' => e = .returned (.bool (fitK n.kids [expK, expK, expK])) ∧ Below W.heap.size W w') := hide (fun W b hb hr' => fitCall n.kids [expK, expK, expK] v W b (by decide) (by decide) hb hr')
  have HR := hide hr
  obtain ⟨a0, c0, hv0⟩ := RdK_slice hr
  subst hv0
  unfold ndV
  rw [hk]
  clear hr
  generalize n.text = xt at *
  generalize fitK n.kids [expK, expK, expK] = r at *
  go_enter Tryz.func19, Tryz.ntmps19
  go_wp2_with (go_at_call 29; refine (unhide K1 (w.alloc _) _ (by simp) (RdK_later (bal (brf w) _) (unhide HR))).mono ?_; rintro e v1 ⟨rfl, hb1⟩)
  go_ret
  exact ⟨rfl, btr (bal (brf w) _) hb1⟩
end Go.Proofs.YtlcpmbdckmdabaaGreatDoor
namespace Go.Proofs.YtlcpmbdckmdabaaGreatDoor
open Go.RowKit Nt
set_option linter.unusedVariables false
set_option maxRecDepth 100000
theorem kf14 (n : Nd) (v : Value) (w : World) (hr : RdK w n.kids v) (hk : n.kind = 14) :
    Calls Tryz.prog 19 #[ndV n v] w fun e w' => e = .returned (.bool (fitK n.kids [tgtK, expK])) ∧ Below w.heap.size w w' := by
  have K1 : Hid (∀ (W : World) (b : Nat), b = W.heap.size → RdK W n.kids v → Calls Tryz.prog 29 #[v, .slice (some ⟨b, 0, none⟩) 2 2] (W.alloc (Obj.cells #[.int .u64 962072674304, .int .u64 281406257233920] 49)) fun e w' => e = .returned (.bool (fitK n.kids [tgtK, expK])) ∧ Below W.heap.size W w') := hide (fun W b hb hr' => fitCall n.kids [tgtK, expK] v W b (by decide) (by decide) hb hr')
  have HR := hide hr
  obtain ⟨a0, c0, hv0⟩ := RdK_slice hr
  subst hv0
  unfold ndV
  rw [hk]
  clear hr
  generalize n.text = xt at *
  generalize fitK n.kids [tgtK, expK] = r at *
  go_enter Tryz.func19, Tryz.ntmps19
  go_wp2_with (go_at_call 29; refine (unhide K1 (w.alloc _) _ (by simp) (RdK_later (bal (brf w) _) (unhide HR))).mono ?_; rintro e v1 ⟨rfl, hb1⟩)
  go_ret
  exact ⟨rfl, btr (bal (brf w) _) hb1⟩
theorem kf27 (n : Nd) (v : Value) (w : World) (hr : RdK w n.kids v) (hk : n.kind = 27) :
    Calls Tryz.prog 19 #[ndV n v] w fun e w' => e = .returned (.bool (fitK n.kids [tgtK, expK])) ∧ Below w.heap.size w w' := by
  have K1 : Hid (∀ (W : World) (b : Nat), b = W.heap.size → RdK W n.kids v → Calls Tryz.prog 29 #[v, .slice (some ⟨b, 0, none⟩) 2 2] (W.alloc (Obj.cells #[.int .u64 962072674304, .int .u64 281406257233920] 49)) fun e w' => e = .returned (.bool (fitK n.kids [tgtK, expK])) ∧ Below W.heap.size W w') := hide (fun W b hb hr' => fitCall n.kids [tgtK, expK] v W b (by decide) (by decide) hb hr')
  have HR := hide hr
  obtain ⟨a0, c0, hv0⟩ := RdK_slice hr
  subst hv0
  unfold ndV
  rw [hk]
  clear hr
  generalize n.text = xt at *
  generalize fitK n.kids [tgtK, expK] = r at *
  go_enter Tryz.func19, Tryz.ntmps19
  go_wp2_with (go_at_call 29; refine (unhide K1 (w.alloc _) _ (by simp) (RdK_later (bal (brf w) _) (unhide HR))).mono ?_; rintro e v1 ⟨rfl, hb1⟩)
  go_ret
  exact ⟨rfl, btr (bal (brf w) _) hb1⟩
theorem kf28 (n : Nd) (v : Value) (w : World) (hr : RdK w n.kids v) (hk : n.kind = 28) :
    Calls Tryz.prog 19 #[ndV n v] w fun e w' => e = .returned (.bool (fitK n.kids [tgtK, expK])) ∧ Below w.heap.size w w' := by
  have K1 : Hid (∀ (W : World) (b : Nat), b = W.heap.size → RdK W n.kids v → Calls Tryz.prog 29 #[v, .slice (some ⟨b, 0, none⟩) 2 2] (W.alloc (Obj.cells #[.int .u64 962072674304, .int .u64 281406257233920] 49)) fun e w' => e = .returned (.bool (fitK n.kids [tgtK, expK])) ∧ Below W.heap.size W w') := hide (fun W b hb hr' => fitCall n.kids [tgtK, expK] v W b (by decide) (by decide) hb hr')
  have HR := hide hr
  obtain ⟨a0, c0, hv0⟩ := RdK_slice hr
  subst hv0
  unfold ndV
  rw [hk]
  clear hr
  generalize n.text = xt at *
  generalize fitK n.kids [tgtK, expK] = r at *
  go_enter Tryz.func19, Tryz.ntmps19
  go_wp2_with (go_at_call 29; refine (unhide K1 (w.alloc _) _ (by simp) (RdK_later (bal (brf w) _) (unhide HR))).mono ?_; rintro e v1 ⟨rfl, hb1⟩)
  go_ret
  exact ⟨rfl, btr (bal (brf w) _) hb1⟩
theorem kf6 (n : Nd) (v : Value) (w : World) (hr : RdK w n.kids v) (hk : n.kind = 6) :
    Calls Tryz.prog 19 #[ndV n v] w fun e w' => e = .returned (.bool (fitK n.kids [2 ^ 8])) ∧ Below w.heap.size w w' := by
  have K1 : Hid (∀ (W : World) (b : Nat), b = W.heap.size → RdK W n.kids v → Calls Tryz.prog 29 #[v, .slice (some ⟨b, 0, none⟩) 1 1] (W.alloc (Obj.cells #[.int .u64 256] 49)) fun e w' => e = .returned (.bool (fitK n.kids [2 ^ 8])) ∧ Below W.heap.size W w') := hide (fun W b hb hr' => fitCall n.kids [2 ^ 8] v W b (by decide) (by decide) hb hr')
  have HR := hide hr
  obtain ⟨a0, c0, hv0⟩ := RdK_slice hr
  subst hv0
  unfold ndV
  rw [hk]
  clear hr
  generalize n.text = xt at *
  generalize fitK n.kids [2 ^ 8] = r at *
  go_enter Tryz.func19, Tryz.ntmps19
  go_wp2_with (go_at_call 29; refine (unhide K1 (w.alloc _) _ (by simp) (RdK_later (bal (brf w) _) (unhide HR))).mono ?_; rintro e v1 ⟨rfl, hb1⟩)
  go_ret
  exact ⟨rfl, btr (bal (brf w) _) hb1⟩
theorem kf7 (n : Nd) (v : Value) (w : World) (hr : RdK w n.kids v) (hk : n.kind = 7) :
    Calls Tryz.prog 19 #[ndV n v] w fun e w' => e = .returned (.bool (fitK n.kids [2 ^ 8])) ∧ Below w.heap.size w w' := by
  have K1 : Hid (∀ (W : World) (b : Nat), b = W.heap.size → RdK W n.kids v → Calls Tryz.prog 29 #[v, .slice (some ⟨b, 0, none⟩) 1 1] (W.alloc (Obj.cells #[.int .u64 256] 49)) fun e w' => e = .returned (.bool (fitK n.kids [2 ^ 8])) ∧ Below W.heap.size W w') := hide (fun W b hb hr' => fitCall n.kids [2 ^ 8] v W b (by decide) (by decide) hb hr')
  have HR := hide hr
  obtain ⟨a0, c0, hv0⟩ := RdK_slice hr
  subst hv0
  unfold ndV
  rw [hk]
  clear hr
  generalize n.text = xt at *
  generalize fitK n.kids [2 ^ 8] = r at *
  go_enter Tryz.func19, Tryz.ntmps19
  go_wp2_with (go_at_call 29; refine (unhide K1 (w.alloc _) _ (by simp) (RdK_later (bal (brf w) _) (unhide HR))).mono ?_; rintro e v1 ⟨rfl, hb1⟩)
  go_ret
  exact ⟨rfl, btr (bal (brf w) _) hb1⟩
theorem kf9 (n : Nd) (v : Value) (w : World) (hr : RdK w n.kids v) (hk : n.kind = 9) :
    Calls Tryz.prog 19 #[ndV n v] w fun e w' => e = .returned (.bool (fitK n.kids [2 ^ 8])) ∧ Below w.heap.size w w' := by
  have K1 : Hid (∀ (W : World) (b : Nat), b = W.heap.size → RdK W n.kids v → Calls Tryz.prog 29 #[v, .slice (some ⟨b, 0, none⟩) 1 1] (W.alloc (Obj.cells #[.int .u64 256] 49)) fun e w' => e = .returned (.bool (fitK n.kids [2 ^ 8])) ∧ Below W.heap.size W w') := hide (fun W b hb hr' => fitCall n.kids [2 ^ 8] v W b (by decide) (by decide) hb hr')
  have HR := hide hr
  obtain ⟨a0, c0, hv0⟩ := RdK_slice hr
  subst hv0
  unfold ndV
  rw [hk]
  clear hr
  generalize n.text = xt at *
  generalize fitK n.kids [2 ^ 8] = r at *
  go_enter Tryz.func19, Tryz.ntmps19
  go_wp2_with (go_at_call 29; refine (unhide K1 (w.alloc _) _ (by simp) (RdK_later (bal (brf w) _) (unhide HR))).mono ?_; rintro e v1 ⟨rfl, hb1⟩)
  go_ret
  exact ⟨rfl, btr (bal (brf w) _) hb1⟩
theorem kf11 (n : Nd) (v : Value) (w : World) (hr : RdK w n.kids v) (hk : n.kind = 11) :
    Calls Tryz.prog 19 #[ndV n v] w fun e w' => e = .returned (.bool (fitK n.kids [2 ^ 8, expK])) ∧ Below w.heap.size w w' := by
  have K1 : Hid (∀ (W : World) (b : Nat), b = W.heap.size → RdK W n.kids v → Calls Tryz.prog 29 #[v, .slice (some ⟨b, 0, none⟩) 2 2] (W.alloc (Obj.cells #[.int .u64 256, .int .u64 281406257233920] 49)) fun e w' => e = .returned (.bool (fitK n.kids [2 ^ 8, expK])) ∧ Below W.heap.size W w') := hide (fun W b hb hr' => fitCall n.kids [2 ^ 8, expK] v W b (by decide) (by decide) hb hr')
  have HR := hide hr
  obtain ⟨a0, c0, hv0⟩ := RdK_slice hr
  subst hv0
  unfold ndV
  rw [hk]
  clear hr
  generalize n.text = xt at *
  generalize fitK n.kids [2 ^ 8, expK] = r at *
  go_enter Tryz.func19, Tryz.ntmps19
  go_wp2_with (go_at_call 29; refine (unhide K1 (w.alloc _) _ (by simp) (RdK_later (bal (brf w) _) (unhide HR))).mono ?_; rintro e v1 ⟨rfl, hb1⟩)
  go_ret
  exact ⟨rfl, btr (bal (brf w) _) hb1⟩
theorem kf15 (n : Nd) (v : Value) (w : World) (hr : RdK w n.kids v) (hk : n.kind = 15) :
    Calls Tryz.prog 19 #[ndV n v] w fun e w' => e = .returned (.bool (fitK n.kids [2 ^ 26])) ∧ Below w.heap.size w w' := by
  have K1 : Hid (∀ (W : World) (b : Nat), b = W.heap.size → RdK W n.kids v → Calls Tryz.prog 29 #[v, .slice (some ⟨b, 0, none⟩) 1 1] (W.alloc (Obj.cells #[.int .u64 67108864] 49)) fun e w' => e = .returned (.bool (fitK n.kids [2 ^ 26])) ∧ Below W.heap.size W w') := hide (fun W b hb hr' => fitCall n.kids [2 ^ 26] v W b (by decide) (by decide) hb hr')
  have HR := hide hr
  obtain ⟨a0, c0, hv0⟩ := RdK_slice hr
  subst hv0
  unfold ndV
  rw [hk]
  clear hr
  generalize n.text = xt at *
  generalize fitK n.kids [2 ^ 26] = r at *
  go_enter Tryz.func19, Tryz.ntmps19
  go_wp2_with (go_at_call 29; refine (unhide K1 (w.alloc _) _ (by simp) (RdK_later (bal (brf w) _) (unhide HR))).mono ?_; rintro e v1 ⟨rfl, hb1⟩)
  go_ret
  exact ⟨rfl, btr (bal (brf w) _) hb1⟩
theorem kf16 (n : Nd) (v : Value) (w : World) (hr : RdK w n.kids v) (hk : n.kind = 16) :
    Calls Tryz.prog 19 #[ndV n v] w fun e w' => e = .returned (.bool (fitK n.kids [2 ^ 26])) ∧ Below w.heap.size w w' := by
  have K1 : Hid (∀ (W : World) (b : Nat), b = W.heap.size → RdK W n.kids v → Calls Tryz.prog 29 #[v, .slice (some ⟨b, 0, none⟩) 1 1] (W.alloc (Obj.cells #[.int .u64 67108864] 49)) fun e w' => e = .returned (.bool (fitK n.kids [2 ^ 26])) ∧ Below W.heap.size W w') := hide (fun W b hb hr' => fitCall n.kids [2 ^ 26] v W b (by decide) (by decide) hb hr')
  have HR := hide hr
  obtain ⟨a0, c0, hv0⟩ := RdK_slice hr
  subst hv0
  unfold ndV
  rw [hk]
  clear hr
  generalize n.text = xt at *
  generalize fitK n.kids [2 ^ 26] = r at *
  go_enter Tryz.func19, Tryz.ntmps19
  go_wp2_with (go_at_call 29; refine (unhide K1 (w.alloc _) _ (by simp) (RdK_later (bal (brf w) _) (unhide HR))).mono ?_; rintro e v1 ⟨rfl, hb1⟩)
  go_ret
  exact ⟨rfl, btr (bal (brf w) _) hb1⟩
theorem kf17 (n : Nd) (v : Value) (w : World) (hr : RdK w n.kids v) (hk : n.kind = 17) :
    Calls Tryz.prog 19 #[ndV n v] w fun e w' => e = .returned (.bool (fitK n.kids [2 ^ 26])) ∧ Below w.heap.size w w' := by
  have K1 : Hid (∀ (W : World) (b : Nat), b = W.heap.size → RdK W n.kids v → Calls Tryz.prog 29 #[v, .slice (some ⟨b, 0, none⟩) 1 1] (W.alloc (Obj.cells #[.int .u64 67108864] 49)) fun e w' => e = .returned (.bool (fitK n.kids [2 ^ 26])) ∧ Below W.heap.size W w') := hide (fun W b hb hr' => fitCall n.kids [2 ^ 26] v W b (by decide) (by decide) hb hr')
  have HR := hide hr
  obtain ⟨a0, c0, hv0⟩ := RdK_slice hr
  subst hv0
  unfold ndV
  rw [hk]
  clear hr
  generalize n.text = xt at *
  generalize fitK n.kids [2 ^ 26] = r at *
  go_enter Tryz.func19, Tryz.ntmps19
  go_wp2_with (go_at_call 29; refine (unhide K1 (w.alloc _) _ (by simp) (RdK_later (bal (brf w) _) (unhide HR))).mono ?_; rintro e v1 ⟨rfl, hb1⟩)
  go_ret
  exact ⟨rfl, btr (bal (brf w) _) hb1⟩
theorem kf32 (n : Nd) (v : Value) (w : World) (hr : RdK w n.kids v) (hk : n.kind = 32) :
    Calls Tryz.prog 19 #[ndV n v] w fun e w' => e = .returned (.bool (fitK n.kids [2 ^ 26])) ∧ Below w.heap.size w w' := by
  have K1 : Hid (∀ (W : World) (b : Nat), b = W.heap.size → RdK W n.kids v → Calls Tryz.prog 29 #[v, .slice (some ⟨b, 0, none⟩) 1 1] (W.alloc (Obj.cells #[.int .u64 67108864] 49)) fun e w' => e = .returned (.bool (fitK n.kids [2 ^ 26])) ∧ Below W.heap.size W w') := hide (fun W b hb hr' => fitCall n.kids [2 ^ 26] v W b (by decide) (by decide) hb hr')
  have HR := hide hr
  obtain ⟨a0, c0, hv0⟩ := RdK_slice hr
  subst hv0
  unfold ndV
  rw [hk]
  clear hr
  generalize n.text = xt at *
  generalize fitK n.kids [2 ^ 26] = r at *
  go_enter Tryz.func19, Tryz.ntmps19
  go_wp2_with (go_at_call 29; refine (unhide K1 (w.alloc _) _ (by simp) (RdK_later (bal (brf w) _) (unhide HR))).mono ?_; rintro e v1 ⟨rfl, hb1⟩)
  go_ret
  exact ⟨rfl, btr (bal (brf w) _) hb1⟩
theorem kf20 (n : Nd) (v : Value) (w : World) (hr : RdK w n.kids v) (hk : n.kind = 20) :
    Calls Tryz.prog 19 #[ndV n v] w fun e w' => e = .returned (.bool (fitK n.kids [expK, expK, 2 ^ 23])) ∧ Below w.heap.size w w' := by
  have K1 : Hid (∀ (W : World) (b : Nat), b = W.heap.size → RdK W n.kids v → Calls Tryz.prog 29 #[v, .slice (some ⟨b, 0, none⟩) 3 3] (W.alloc (Obj.cells #[.int .u64 281406257233920, .int .u64 281406257233920, .int .u64 8388608] 49)) fun e w' => e = .returned (.bool (fitK n.kids [expK, expK, 2 ^ 23])) ∧ Below W.heap.size W w') := hide (fun W b hb hr' => fitCall n.kids [expK, expK, 2 ^ 23] v W b (by decide) (by decide) hb hr')
  have HR := hide hr
  obtain ⟨a0, c0, hv0⟩ := RdK_slice hr
  subst hv0
  unfold ndV
  rw [hk]
  clear hr
  generalize n.text = xt at *
  generalize fitK n.kids [expK, expK, 2 ^ 23] = r at *
  go_enter Tryz.func19, Tryz.ntmps19
  go_wp2_with (go_at_call 29; refine (unhide K1 (w.alloc _) _ (by simp) (RdK_later (bal (brf w) _) (unhide HR))).mono ?_; rintro e v1 ⟨rfl, hb1⟩)
  go_ret
  exact ⟨rfl, btr (bal (brf w) _) hb1⟩
theorem kf33 (n : Nd) (v : Value) (w : World) (hr : RdK w n.kids v) (hk : n.kind = 33) :
    Calls Tryz.prog 19 #[ndV n v] w fun e w' => e = .returned (.bool (fitK n.kids [expK, expK, 2 ^ 26])) ∧ Below w.heap.size w w' := by
  have K1 : Hid (∀ (W : World) (b : Nat), b = W.heap.size → RdK W n.kids v → Calls Tryz.prog 29 #[v, .slice (some ⟨b, 0, none⟩) 3 3] (W.alloc (Obj.cells #[.int .u64 281406257233920, .int .u64 281406257233920, .int .u64 67108864] 49)) fun e w' => e = .returned (.bool (fitK n.kids [expK, expK, 2 ^ 26])) ∧ Below W.heap.size W w') := hide (fun W b hb hr' => fitCall n.kids [expK, expK, 2 ^ 26] v W b (by decide) (by decide) hb hr')
  have HR := hide hr
  obtain ⟨a0, c0, hv0⟩ := RdK_slice hr
  subst hv0
  unfold ndV
  rw [hk]
  clear hr
  generalize n.text = xt at *
  generalize fitK n.kids [expK, expK, 2 ^ 26] = r at *
  go_enter Tryz.func19, Tryz.ntmps19
  go_wp2_with (go_at_call 29; refine (unhide K1 (w.alloc _) _ (by simp) (RdK_later (bal (brf w) _) (unhide HR))).mono ?_; rintro e v1 ⟨rfl, hb1⟩)
  go_ret
  exact ⟨rfl, btr (bal (brf w) _) hb1⟩
theorem kf22 (n : Nd) (v : Value) (w : World) (hr : RdK w n.kids v) (hk : n.kind = 22) :
    Calls Tryz.prog 19 #[ndV n v] w fun e w' => e = .returned (.bool (fitK n.kids [2 ^ 37, 2 ^ 3, 2 ^ 24])) ∧ Below w.heap.size w w' := by
  have K1 : Hid (∀ (W : World) (b : Nat), b = W.heap.size → RdK W n.kids v → Calls Tryz.prog 29 #[v, .slice (some ⟨b, 0, none⟩) 3 3] (W.alloc (Obj.cells #[.int .u64 137438953472, .int .u64 8, .int .u64 16777216] 49)) fun e w' => e = .returned (.bool (fitK n.kids [2 ^ 37, 2 ^ 3, 2 ^ 24])) ∧ Below W.heap.size W w') := hide (fun W b hb hr' => fitCall n.kids [2 ^ 37, 2 ^ 3, 2 ^ 24] v W b (by decide) (by decide) hb hr')
  have HR := hide hr
  obtain ⟨a0, c0, hv0⟩ := RdK_slice hr
  subst hv0
  unfold ndV
  rw [hk]
  clear hr
  generalize n.text = xt at *
  generalize fitK n.kids [2 ^ 37, 2 ^ 3, 2 ^ 24] = r at *
  go_enter Tryz.func19, Tryz.ntmps19
  go_wp2_with (go_at_call 29; refine (unhide K1 (w.alloc _) _ (by simp) (RdK_later (bal (brf w) _) (unhide HR))).mono ?_; rintro e v1 ⟨rfl, hb1⟩)
  go_ret
  exact ⟨rfl, btr (bal (brf w) _) hb1⟩
end Go.Proofs.YtlcpmbdckmdabaaGreatDoor
namespace Go.Proofs.YtlcpmbdckmdabaaGreatDoor
open Go.RowKit Nt
set_option linter.unusedVariables false
set_option maxRecDepth 100000
set_option maxHeartbeats 400000 in
theorem kf10t (n : Nd) (v : Value) (w : World) (hr : RdK w n.kids v) (hk : n.kind = 10) (hB : fitK n.kids [2 ^ 8] = true) :
    Calls Tryz.prog 19 #[ndV n v] w fun e w' => e = .returned (.bool true) ∧ Below w.heap.size w w' := by
  have K1 : Hid (∀ (W : World) (b : Nat), b = W.heap.size → RdK W n.kids v → Calls Tryz.prog 29 #[v, .slice (some ⟨b, 0, none⟩) 1 1] (W.alloc (Obj.cells #[.int .u64 256] 49)) fun e w' => e = .returned (.bool (fitK n.kids [2 ^ 8])) ∧ Below W.heap.size W w') := hide (fun W b hb hr' => fitCall n.kids [2 ^ 8] v W b (by decide) (by decide) hb hr')
  rw [hB] at K1
  have HR := hide hr
  obtain ⟨a0, c0, hv0⟩ := RdK_slice hr
  subst hv0
  unfold ndV
  rw [hk]
  clear hr hB
  generalize n.text = xt at *
  go_enter Tryz.func19, Tryz.ntmps19
  go_wp2_with (first | (go_at_call 29; refine (unhide K1 (w.alloc _) _ (by simp) (RdK_later (bal (brf w) _) (unhide HR))).mono ?_; rintro e v1 ⟨rfl, hb1⟩; obtain ⟨hc1, hf1⟩ := bcell hb1))
  go_ret
  exact ⟨rfl, btr (bal (brf w) _) hb1⟩
set_option maxHeartbeats 400000 in
theorem kf10f (n : Nd) (v : Value) (w : World) (hr : RdK w n.kids v) (hk : n.kind = 10) (hB : fitK n.kids [2 ^ 8] = false) :
    Calls Tryz.prog 19 #[ndV n v] w fun e w' => e = .returned (.bool (fitK n.kids [2 ^ 8, expK])) ∧ Below w.heap.size w w' := by
  have K1 : Hid (∀ (W : World) (b : Nat), b = W.heap.size → RdK W n.kids v → Calls Tryz.prog 29 #[v, .slice (some ⟨b, 0, none⟩) 1 1] (W.alloc (Obj.cells #[.int .u64 256] 49)) fun e w' => e = .returned (.bool (fitK n.kids [2 ^ 8])) ∧ Below W.heap.size W w') := hide (fun W b hb hr' => fitCall n.kids [2 ^ 8] v W b (by decide) (by decide) hb hr')
  rw [hB] at K1
  have K2 : Hid (∀ (W : World) (b : Nat), b = W.heap.size → RdK W n.kids v → Calls Tryz.prog 29 #[v, .slice (some ⟨b, 0, none⟩) 2 2] (W.alloc (Obj.cells #[.int .u64 256, .int .u64 281406257233920] 49)) fun e w' => e = .returned (.bool (fitK n.kids [2 ^ 8, expK])) ∧ Below W.heap.size W w') := hide (fun W b hb hr' => fitCall n.kids [2 ^ 8, expK] v W b (by decide) (by decide) hb hr')
  have HR := hide hr
  obtain ⟨a0, c0, hv0⟩ := RdK_slice hr
  subst hv0
  unfold ndV
  rw [hk]
  clear hr hB
  generalize n.text = xt at *
  generalize fitK n.kids [2 ^ 8, expK] = r at *
  go_enter Tryz.func19, Tryz.ntmps19
  go_wp2_with (first | (go_at_call 29; refine (unhide K2 v1 _ rfl (RdK_later (btr (bal (brf w) _) hb1) (unhide HR))).mono ?_; rintro e v2 ⟨rfl, hb2⟩) | (go_at_call 29; refine (unhide K1 (w.alloc _) _ (by simp) (RdK_later (bal (brf w) _) (unhide HR))).mono ?_; rintro e v1 ⟨rfl, hb1⟩; obtain ⟨hc1, hf1⟩ := bcell hb1))
  go_ret
  exact ⟨rfl, btr (btr (bal (brf w) _) hb1) hb2⟩
theorem kf10 (n : Nd) (v : Value) (w : World) (hr : RdK w n.kids v) (hk : n.kind = 10) :
    Calls Tryz.prog 19 #[ndV n v] w fun e w' => e = .returned (.bool (fitK n.kids [2 ^ 8] || fitK n.kids [2 ^ 8, expK])) ∧ Below w.heap.size w w' := by
  cases hB : fitK n.kids [2 ^ 8] with
  | true => exact kf10t n v w hr hk hB
  | false => rw [Bool.false_or]; exact kf10f n v w hr hk hB
set_option maxHeartbeats 400000 in
theorem kf21t (n : Nd) (v : Value) (w : World) (hr : RdK w n.kids v) (hk : n.kind = 21) (hB : fitK n.kids [expK, 2 ^ 23] = true) :
    Calls Tryz.prog 19 #[ndV n v] w fun e w' => e = .returned (.bool true) ∧ Below w.heap.size w w' := by
  have K1 : Hid (∀ (W : World) (b : Nat), b = W.heap.size → RdK W n.kids v → Calls Tryz.prog 29 #[v, .slice (some ⟨b, 0, none⟩) 2 2] (W.alloc (Obj.cells #[.int .u64 281406257233920, .int .u64 8388608] 49)) fun e w' => e = .returned (.bool (fitK n.kids [expK, 2 ^ 23])) ∧ Below W.heap.size W w') := hide (fun W b hb hr' => fitCall n.kids [expK, 2 ^ 23] v W b (by decide) (by decide) hb hr')
  rw [hB] at K1
  have HR := hide hr
  obtain ⟨a0, c0, hv0⟩ := RdK_slice hr
  subst hv0
  unfold ndV
  rw [hk]
  clear hr hB
  generalize n.text = xt at *
  go_enter Tryz.func19, Tryz.ntmps19
  go_wp2_with (first | (go_at_call 29; refine (unhide K1 (w.alloc _) _ (by simp) (RdK_later (bal (brf w) _) (unhide HR))).mono ?_; rintro e v1 ⟨rfl, hb1⟩; obtain ⟨hc1, hf1⟩ := bcell hb1))
  go_ret
  exact ⟨rfl, btr (bal (brf w) _) hb1⟩
set_option maxHeartbeats 400000 in
theorem kf21f (n : Nd) (v : Value) (w : World) (hr : RdK w n.kids v) (hk : n.kind = 21) (hB : fitK n.kids [expK, 2 ^ 23] = false) :
    Calls Tryz.prog 19 #[ndV n v] w fun e w' => e = .returned (.bool (fitK n.kids [expK, 2 ^ 23, 2 ^ 23])) ∧ Below w.heap.size w w' := by
  have K1 : Hid (∀ (W : World) (b : Nat), b = W.heap.size → RdK W n.kids v → Calls Tryz.prog 29 #[v, .slice (some ⟨b, 0, none⟩) 2 2] (W.alloc (Obj.cells #[.int .u64 281406257233920, .int .u64 8388608] 49)) fun e w' => e = .returned (.bool (fitK n.kids [expK, 2 ^ 23])) ∧ Below W.heap.size W w') := hide (fun W b hb hr' => fitCall n.kids [expK, 2 ^ 23] v W b (by decide) (by decide) hb hr')
  rw [hB] at K1
  have K2 : Hid (∀ (W : World) (b : Nat), b = W.heap.size → RdK W n.kids v → Calls Tryz.prog 29 #[v, .slice (some ⟨b, 0, none⟩) 3 3] (W.alloc (Obj.cells #[.int .u64 281406257233920, .int .u64 8388608, .int .u64 8388608] 49)) fun e w' => e = .returned (.bool (fitK n.kids [expK, 2 ^ 23, 2 ^ 23])) ∧ Below W.heap.size W w') := hide (fun W b hb hr' => fitCall n.kids [expK, 2 ^ 23, 2 ^ 23] v W b (by decide) (by decide) hb hr')
  have HR := hide hr
  obtain ⟨a0, c0, hv0⟩ := RdK_slice hr
  subst hv0
  unfold ndV
  rw [hk]
  clear hr hB
  generalize n.text = xt at *
  generalize fitK n.kids [expK, 2 ^ 23, 2 ^ 23] = r at *
  go_enter Tryz.func19, Tryz.ntmps19
  go_wp2_with (first | (go_at_call 29; refine (unhide K2 v1 _ rfl (RdK_later (btr (bal (brf w) _) hb1) (unhide HR))).mono ?_; rintro e v2 ⟨rfl, hb2⟩) | (go_at_call 29; refine (unhide K1 (w.alloc _) _ (by simp) (RdK_later (bal (brf w) _) (unhide HR))).mono ?_; rintro e v1 ⟨rfl, hb1⟩; obtain ⟨hc1, hf1⟩ := bcell hb1))
  go_ret
  exact ⟨rfl, btr (btr (bal (brf w) _) hb1) hb2⟩
theorem kf21 (n : Nd) (v : Value) (w : World) (hr : RdK w n.kids v) (hk : n.kind = 21) :
    Calls Tryz.prog 19 #[ndV n v] w fun e w' => e = .returned (.bool (fitK n.kids [expK, 2 ^ 23] || fitK n.kids [expK, 2 ^ 23, 2 ^ 23])) ∧ Below w.heap.size w w' := by
  cases hB : fitK n.kids [expK, 2 ^ 23] with
  | true => exact kf21t n v w hr hk hB
  | false => rw [Bool.false_or]; exact kf21f n v w hr hk hB
set_option maxHeartbeats 400000 in
theorem kf29t (n : Nd) (v : Value) (w : World) (hr : RdK w n.kids v) (hk : n.kind = 29) (hB : fitK n.kids [expK, 2 ^ 26] = true) :
    Calls Tryz.prog 19 #[ndV n v] w fun e w' => e = .returned (.bool true) ∧ Below w.heap.size w w' := by
  have K1 : Hid (∀ (W : World) (b : Nat), b = W.heap.size → RdK W n.kids v → Calls Tryz.prog 29 #[v, .slice (some ⟨b, 0, none⟩) 2 2] (W.alloc (Obj.cells #[.int .u64 281406257233920, .int .u64 67108864] 49)) fun e w' => e = .returned (.bool (fitK n.kids [expK, 2 ^ 26])) ∧ Below W.heap.size W w') := hide (fun W b hb hr' => fitCall n.kids [expK, 2 ^ 26] v W b (by decide) (by decide) hb hr')
  rw [hB] at K1
  have HR := hide hr
  obtain ⟨a0, c0, hv0⟩ := RdK_slice hr
  subst hv0
  unfold ndV
  rw [hk]
  clear hr hB
  generalize n.text = xt at *
  go_enter Tryz.func19, Tryz.ntmps19
  go_wp2_with (first | (go_at_call 29; refine (unhide K1 (w.alloc _) _ (by simp) (RdK_later (bal (brf w) _) (unhide HR))).mono ?_; rintro e v1 ⟨rfl, hb1⟩; obtain ⟨hc1, hf1⟩ := bcell hb1))
  go_ret
  exact ⟨rfl, btr (bal (brf w) _) hb1⟩
set_option maxHeartbeats 400000 in
theorem kf29f (n : Nd) (v : Value) (w : World) (hr : RdK w n.kids v) (hk : n.kind = 29) (hB : fitK n.kids [expK, 2 ^ 26] = false) :
    Calls Tryz.prog 19 #[ndV n v] w fun e w' => e = .returned (.bool (fitK n.kids [expK, 2 ^ 26, 2 ^ 26 + 2 ^ 29])) ∧ Below w.heap.size w w' := by
  have K1 : Hid (∀ (W : World) (b : Nat), b = W.heap.size → RdK W n.kids v → Calls Tryz.prog 29 #[v, .slice (some ⟨b, 0, none⟩) 2 2] (W.alloc (Obj.cells #[.int .u64 281406257233920, .int .u64 67108864] 49)) fun e w' => e = .returned (.bool (fitK n.kids [expK, 2 ^ 26])) ∧ Below W.heap.size W w') := hide (fun W b hb hr' => fitCall n.kids [expK, 2 ^ 26] v W b (by decide) (by decide) hb hr')
  rw [hB] at K1
  have K2 : Hid (∀ (W : World) (b : Nat), b = W.heap.size → RdK W n.kids v → Calls Tryz.prog 29 #[v, .slice (some ⟨b, 0, none⟩) 3 3] (W.alloc (Obj.cells #[.int .u64 281406257233920, .int .u64 67108864, .int .u64 603979776] 49)) fun e w' => e = .returned (.bool (fitK n.kids [expK, 2 ^ 26, 2 ^ 26 + 2 ^ 29])) ∧ Below W.heap.size W w') := hide (fun W b hb hr' => fitCall n.kids [expK, 2 ^ 26, 2 ^ 26 + 2 ^ 29] v W b (by decide) (by decide) hb hr')
  have HR := hide hr
  obtain ⟨a0, c0, hv0⟩ := RdK_slice hr
  subst hv0
  unfold ndV
  rw [hk]
  clear hr hB
  generalize n.text = xt at *
  generalize fitK n.kids [expK, 2 ^ 26, 2 ^ 26 + 2 ^ 29] = r at *
  go_enter Tryz.func19, Tryz.ntmps19
  go_wp2_with (first | (go_at_call 29; refine (unhide K2 v1 _ rfl (RdK_later (btr (bal (brf w) _) hb1) (unhide HR))).mono ?_; rintro e v2 ⟨rfl, hb2⟩) | (go_at_call 29; refine (unhide K1 (w.alloc _) _ (by simp) (RdK_later (bal (brf w) _) (unhide HR))).mono ?_; rintro e v1 ⟨rfl, hb1⟩; obtain ⟨hc1, hf1⟩ := bcell hb1))
  go_ret
  exact ⟨rfl, btr (btr (bal (brf w) _) hb1) hb2⟩
theorem kf29 (n : Nd) (v : Value) (w : World) (hr : RdK w n.kids v) (hk : n.kind = 29) :
    Calls Tryz.prog 19 #[ndV n v] w fun e w' => e = .returned (.bool (fitK n.kids [expK, 2 ^ 26] || fitK n.kids [expK, 2 ^ 26, 2 ^ 26 + 2 ^ 29])) ∧ Below w.heap.size w w' := by
  cases hB : fitK n.kids [expK, 2 ^ 26] with
  | true => exact kf29t n v w hr hk hB
  | false => rw [Bool.false_or]; exact kf29f n v w hr hk hB
theorem emp_of2 {ks : List Nd} (h : ks ≠ []) : ks.isEmpty = false := by cases ks with | nil => exact absurd rfl h | cons x xs => rfl
theorem kf35e (n : Nd) (v : Value) (w : World) (hr : RdK w n.kids v) (hk : n.kind = 35) (hE : n.kids = []) :
    Calls Tryz.prog 19 #[ndV n v] w fun e w' => e = .returned (.bool true) ∧ Below w.heap.size w w' := by
  have HR := hide hr
  have hl := len_ok hr
  have q0 : ((n.kids.length : Int) == 0) = true := by rw [hE]; rfl
  obtain ⟨a0, c0, hv0⟩ := RdK_slice hr
  subst hv0
  unfold ndV
  rw [hk]
  clear hr
  generalize n.text = xt at *
  go_enter Tryz.func19, Tryz.ntmps19
  go_wp2
  go_ret
  exact ⟨rfl, bal (brf w) _⟩
theorem kf35f (n : Nd) (v : Value) (w : World) (hr : RdK w n.kids v) (hk : n.kind = 35) (hE : n.kids ≠ []) :
    Calls Tryz.prog 19 #[ndV n v] w fun e w' => e = .returned (.bool false) ∧ Below w.heap.size w w' := by
  have HR := hide hr
  have hl := len_ok hr
  have q0 : ((n.kids.length : Int) == 0) = false := beq_eq_false_iff_ne.2 (by cases h : n.kids with | nil => exact absurd h hE | cons x xs => simp; omega)
  obtain ⟨a0, c0, hv0⟩ := RdK_slice hr
  subst hv0
  unfold ndV
  rw [hk]
  clear hr
  generalize n.text = xt at *
  go_enter Tryz.func19, Tryz.ntmps19
  go_wp2
  go_ret
  exact ⟨rfl, bal (brf w) _⟩
theorem kf35 (n : Nd) (v : Value) (w : World) (hr : RdK w n.kids v) (hk : n.kind = 35) :
    Calls Tryz.prog 19 #[ndV n v] w fun e w' => e = .returned (.bool n.kids.isEmpty) ∧ Below w.heap.size w w' := by
  by_cases hE : n.kids = []
  · have e : n.kids.isEmpty = true := by rw [hE]; rfl
    rw [e]; exact kf35e n v w hr hk hE
  · rw [emp_of2 hE]; exact kf35f n v w hr hk hE
theorem kf36e (n : Nd) (v : Value) (w : World) (hr : RdK w n.kids v) (hk : n.kind = 36) (hE : n.kids = []) :
    Calls Tryz.prog 19 #[ndV n v] w fun e w' => e = .returned (.bool true) ∧ Below w.heap.size w w' := by
  have HR := hide hr
  have hl := len_ok hr
  have q0 : ((n.kids.length : Int) == 0) = true := by rw [hE]; rfl
  obtain ⟨a0, c0, hv0⟩ := RdK_slice hr
  subst hv0
  unfold ndV
  rw [hk]
  clear hr
  generalize n.text = xt at *
  go_enter Tryz.func19, Tryz.ntmps19
  go_wp2
  go_ret
  exact ⟨rfl, bal (brf w) _⟩
theorem kf36f (n : Nd) (v : Value) (w : World) (hr : RdK w n.kids v) (hk : n.kind = 36) (hE : n.kids ≠ []) :
    Calls Tryz.prog 19 #[ndV n v] w fun e w' => e = .returned (.bool false) ∧ Below w.heap.size w w' := by
  have HR := hide hr
  have hl := len_ok hr
  have q0 : ((n.kids.length : Int) == 0) = false := beq_eq_false_iff_ne.2 (by cases h : n.kids with | nil => exact absurd h hE | cons x xs => simp; omega)
  obtain ⟨a0, c0, hv0⟩ := RdK_slice hr
  subst hv0
  unfold ndV
  rw [hk]
  clear hr
  generalize n.text = xt at *
  go_enter Tryz.func19, Tryz.ntmps19
  go_wp2
  go_ret
  exact ⟨rfl, bal (brf w) _⟩
theorem kf36 (n : Nd) (v : Value) (w : World) (hr : RdK w n.kids v) (hk : n.kind = 36) :
    Calls Tryz.prog 19 #[ndV n v] w fun e w' => e = .returned (.bool n.kids.isEmpty) ∧ Below w.heap.size w w' := by
  by_cases hE : n.kids = []
  · have e : n.kids.isEmpty = true := by rw [hE]; rfl
    rw [e]; exact kf36e n v w hr hk hE
  · rw [emp_of2 hE]; exact kf36f n v w hr hk hE
theorem kf37e (n : Nd) (v : Value) (w : World) (hr : RdK w n.kids v) (hk : n.kind = 37) (hE : n.kids = []) :
    Calls Tryz.prog 19 #[ndV n v] w fun e w' => e = .returned (.bool true) ∧ Below w.heap.size w w' := by
  have HR := hide hr
  have hl := len_ok hr
  have q0 : ((n.kids.length : Int) == 0) = true := by rw [hE]; rfl
  obtain ⟨a0, c0, hv0⟩ := RdK_slice hr
  subst hv0
  unfold ndV
  rw [hk]
  clear hr
  generalize n.text = xt at *
  go_enter Tryz.func19, Tryz.ntmps19
  go_wp2
  go_ret
  exact ⟨rfl, bal (brf w) _⟩
theorem kf37f (n : Nd) (v : Value) (w : World) (hr : RdK w n.kids v) (hk : n.kind = 37) (hE : n.kids ≠ []) :
    Calls Tryz.prog 19 #[ndV n v] w fun e w' => e = .returned (.bool false) ∧ Below w.heap.size w w' := by
  have HR := hide hr
  have hl := len_ok hr
  have q0 : ((n.kids.length : Int) == 0) = false := beq_eq_false_iff_ne.2 (by cases h : n.kids with | nil => exact absurd h hE | cons x xs => simp; omega)
  obtain ⟨a0, c0, hv0⟩ := RdK_slice hr
  subst hv0
  unfold ndV
  rw [hk]
  clear hr
  generalize n.text = xt at *
  go_enter Tryz.func19, Tryz.ntmps19
  go_wp2
  go_ret
  exact ⟨rfl, bal (brf w) _⟩
theorem kf37 (n : Nd) (v : Value) (w : World) (hr : RdK w n.kids v) (hk : n.kind = 37) :
    Calls Tryz.prog 19 #[ndV n v] w fun e w' => e = .returned (.bool n.kids.isEmpty) ∧ Below w.heap.size w w' := by
  by_cases hE : n.kids = []
  · have e : n.kids.isEmpty = true := by rw [hE]; rfl
    rw [e]; exact kf37e n v w hr hk hE
  · rw [emp_of2 hE]; exact kf37f n v w hr hk hE
theorem kf8e (n : Nd) (v : Value) (w : World) (hr : RdK w n.kids v) (hk : n.kind = 8) (hE : n.kids = []) :
    Calls Tryz.prog 19 #[ndV n v] w fun e w' => e = .returned (.bool true) ∧ Below w.heap.size w w' := by
  have HR := hide hr
  have hl := len_ok hr
  have q0 : ((n.kids.length : Int) == 0) = true := by rw [hE]; rfl
  obtain ⟨a0, c0, hv0⟩ := RdK_slice hr
  subst hv0
  unfold ndV
  rw [hk]
  clear hr
  generalize n.text = xt at *
  go_enter Tryz.func19, Tryz.ntmps19
  go_wp2
  go_ret
  exact ⟨rfl, bal (brf w) _⟩
theorem kf8f (n : Nd) (v : Value) (w : World) (hr : RdK w n.kids v) (hk : n.kind = 8) (hE : n.kids ≠ []) :
    Calls Tryz.prog 19 #[ndV n v] w fun e w' => e = .returned (.bool (fitK n.kids [expK])) ∧ Below w.heap.size w w' := by
  have K1 : Hid (∀ (W : World) (b : Nat), b = W.heap.size → RdK W n.kids v → Calls Tryz.prog 29 #[v, .slice (some ⟨b, 0, none⟩) 1 1] (W.alloc (Obj.cells #[.int .u64 281406257233920] 49)) fun e w' => e = .returned (.bool (fitK n.kids [expK])) ∧ Below W.heap.size W w') := hide (fun W b hb hr' => fitCall n.kids [expK] v W b (by decide) (by decide) hb hr')
  have HR := hide hr
  have hl := len_ok hr
  have q0 : ((n.kids.length : Int) == 0) = false := beq_eq_false_iff_ne.2 (by cases h : n.kids with | nil => exact absurd h hE | cons x xs => simp; omega)
  obtain ⟨a0, c0, hv0⟩ := RdK_slice hr
  subst hv0
  unfold ndV
  rw [hk]
  clear hr
  generalize n.text = xt at *
  generalize fitK n.kids [expK] = r at *
  go_enter Tryz.func19, Tryz.ntmps19
  go_wp2_with (first | (go_at_call 29; refine (unhide K1 (w.alloc _) _ (by simp) (RdK_later (bal (brf w) _) (unhide HR))).mono ?_; rintro e v1 ⟨rfl, hb1⟩))
  go_ret
  exact ⟨rfl, btr (bal (brf w) _) hb1⟩
theorem kf8 (n : Nd) (v : Value) (w : World) (hr : RdK w n.kids v) (hk : n.kind = 8) :
    Calls Tryz.prog 19 #[ndV n v] w fun e w' => e = .returned (.bool (n.kids.isEmpty || fitK n.kids [expK])) ∧ Below w.heap.size w w' := by
  by_cases hE : n.kids = []
  · have e : (n.kids.isEmpty || fitK n.kids [expK]) = true := by rw [hE]; rfl
    rw [e]; exact kf8e n v w hr hk hE
  · rw [emp_of2 hE, Bool.false_or]; exact kf8f n v w hr hk hE
end Go.Proofs.YtlcpmbdckmdabaaGreatDoor
