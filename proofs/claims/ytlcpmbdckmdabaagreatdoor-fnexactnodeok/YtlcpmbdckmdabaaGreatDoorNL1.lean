/- The law FnExactNodeOK. -/
import Derived.Test.YtlcpmbdckmdabaaGreatDoorNH12
import Derived.Test.YtlcpmbdckmdabaaGreatDoorNG7
namespace Go.Proofs.YtlcpmbdckmdabaaGreatDoor
open Go.RowKit Nt
set_option linter.unusedVariables false
set_option maxRecDepth 100000
set_option maxHeartbeats 800000 in
theorem lNodeBig (n : Nd) (v : Value) (w : World) (ht : n.text.size ≤ maxLen) (hr : RdK w n.kids v) (hsz : ¬ sz n ≤ 1048576) :
    Calls Tryz.prog 3 #[ndV n v] w fun e w' => e = .returned (.bool true) ∧ Below w.heap.size w w' := by
  have SZ := hide (fun w' hr' => szN n v w' 1048576 (Nat.le_refl _) ht hr')
  rw [szR_lt (by omega)] at SZ
  have HR := hide hr
  obtain ⟨a0, c0, hv0⟩ := RdK_slice hr
  subst hv0
  unfold ndV at SZ ⊢
  clear hr ht
  generalize n.kind = xk at *
  generalize n.text = xt at *
  go_enter Tryz.func3, Tryz.ntmps3
  go_wp2_with (go_at_call 4; refine (unhide SZ _ (RdK_later (bal (brf w) _) (unhide HR))).mono ?_; rintro e v1 ⟨rfl, hb1⟩)
  go_ret
  exact ⟨rfl, btr (bal (brf w) _) hb1⟩
theorem keepL6 {W V v1 : World} {a b c d f g : Addr} {x y z u p q : Value} (h : V.cell? a = some x ∧ V.cell? b = some y ∧ V.cell? c = some z ∧ V.cell? d = some u ∧ V.cell? f = some p ∧ V.cell? g = some q ∧ Below W.heap.size W V) (hb : Below V.heap.size V v1) :
    v1.cell? a = some x ∧ v1.cell? b = some y ∧ v1.cell? c = some z ∧ v1.cell? d = some u ∧ v1.cell? f = some p ∧ v1.cell? g = some q ∧ Below W.heap.size W v1 :=
  ⟨cell_later hb h.1, cell_later hb h.2.1, cell_later hb h.2.2.1, cell_later hb h.2.2.2.1, cell_later hb h.2.2.2.2.1, cell_later hb h.2.2.2.2.2.1, below_step h.2.2.2.2.2.2 hb⟩
theorem belowL6 {W V : World} {a b c d f g : Addr} {x y z u p q : Value} (h : V.cell? a = some x ∧ V.cell? b = some y ∧ V.cell? c = some z ∧ V.cell? d = some u ∧ V.cell? f = some p ∧ V.cell? g = some q ∧ Below W.heap.size W V) : Below W.heap.size W V := h.2.2.2.2.2.2
set_option maxHeartbeats 1600000 in
theorem lNodeOK (n : Nd) (v : Value) (w : World) (ht : n.text.size ≤ maxLen) (hr : RdK w n.kids v) (hg : Gd w) (ho : Ops w) (hsz : sz n ≤ 1048576) :
    Calls Tryz.prog 3 #[ndV n v] w fun e w' => e = .returned (.bool true) ∧ Below w.heap.size w w' := by
  have SZ := hide (fun w' hr' => szN n v w' 1048576 (Nat.le_refl _) ht hr')
  rw [szR_le hsz] at SZ
  have TO := hide (fun w' hr' => toN n v w' hsz hr')
  have SN := hide (fun u w' hr' => sNodeOK n u w' ht hr')
  have IN := hide (fun u w' hr' hg' ho' => iNodeOK n u w' hsz ht hr' hg' ho')
  have EQ := hide (fun u1 u2 w' h1' h2' => eqN n u1 u2 w' h1' h2')
  have HR := hide hr
  have HG := hide hg
  have HO := hide ho
  obtain ⟨a0, c0, hv0⟩ := RdK_slice hr
  subst hv0
  unfold ndV at SZ TO SN IN EQ ⊢
  have Z0 : Hid ((w.alloc (Obj.cells #[Value.int IntKind.i64 n.kind, Value.string n.text, Value.slice a0 n.kids.length c0] 24)).cell? ⟨w.heap.size, 0, none⟩ = some (.int .i64 n.kind)) := hide (by rw [World.cell?_alloc_new]; rfl)
  have Z1 : Hid ((w.alloc (Obj.cells #[Value.int IntKind.i64 n.kind, Value.string n.text, Value.slice a0 n.kids.length c0] 24)).cell? ⟨w.heap.size, 1, none⟩ = some (.string n.text)) := hide (by rw [World.cell?_alloc_new]; rfl)
  have Z2 : Hid ((w.alloc (Obj.cells #[Value.int IntKind.i64 n.kind, Value.string n.text, Value.slice a0 n.kids.length c0] 24)).cell? ⟨w.heap.size, 2, none⟩ = some (.slice a0 n.kids.length c0)) := hide (by rw [World.cell?_alloc_new]; rfl)
  clear hr ht hg ho hsz
  generalize okN n = r at *
  generalize n.kind = xk at *
  generalize n.text = xt at *
  generalize 1048576 - sz n = q at *
  go_enter Tryz.func3, Tryz.ntmps3
  go_wp2_with (go_at_call 4; refine (unhide SZ _ (RdK_later (bal (brf w) _) (unhide HR))).mono ?_; rintro e v1 ⟨rfl, hb1⟩; have y0 := cell_later hb1 (unhide Z0); have y1 := cell_later hb1 (unhide Z1); have y2 := cell_later hb1 (unhide Z2); have HB1 := hide (btr (bal (brf w) _) hb1))
  clear SZ Z0 Z1 Z2 hb1
  have HY0 := hide y0
  have HY1 := hide y1
  have HY2 := hide y2
  clear y0 y1 y2
  refine (unhide TO _ (RdK_later (unhide HB1) (unhide HR))).mono ?_
  rintro e v2 ⟨⟨u1, rfl, hrd1⟩, hb2⟩
  have R1 := hide (RdB_mono (Nat.zero_le _) hrd1)
  obtain ⟨p1, d1, rfl⟩ := RdB_slice hrd1
  have HB2 := hide (btr (unhide HB1) hb2)
  have y0 := cell_later hb2 (unhide HY0)
  have y1 := cell_later hb2 (unhide HY1)
  have y2 := cell_later hb2 (unhide HY2)
  clear hrd1 hb2 HY0 HY1 HY2 HB1
  go_wp2_with (go_at_call 5; refine (unhide SN _ _ (unhide R1)).mono ?_; rintro e v3 ⟨rfl, hb3⟩; have z0 := cell_later hb3 y0; have z1 := cell_later hb3 y1; have z2 := cell_later hb3 y2; have HB3 := hide (btr (unhide HB2) hb3))
  clear hb3 R1 SN y0 y1 y2 HB2
  have HZ0 := hide z0
  have HZ1 := hide z1
  have HZ2 := hide z2
  clear z0 z1 z2
  refine (unhide TO _ (RdK_later (unhide HB3) (unhide HR))).mono ?_
  rintro e v4 ⟨⟨u2, rfl, hrd2⟩, hb4⟩
  have R2 := hide (RdB_mono (Nat.zero_le _) hrd2)
  obtain ⟨p2, d2, rfl⟩ := RdB_slice hrd2
  have HB4 := hide (btr (unhide HB3) hb4)
  have HX0 := hide (cell_later hb4 (unhide HZ0))
  have HX1 := hide (cell_later hb4 (unhide HZ1))
  have HX2 := hide (cell_later hb4 (unhide HZ2))
  have C0 : Hid ((v4.alloc (Obj.cells #[Value.int IntKind.i64 xk, Value.string xt, Value.slice p2 n.kids.length d2] 29)).cell? ⟨v4.heap.size, 0, none⟩ = some (.int .i64 xk)) := hide (by rw [World.cell?_alloc_new]; rfl)
  have C1 : Hid ((v4.alloc (Obj.cells #[Value.int IntKind.i64 xk, Value.string xt, Value.slice p2 n.kids.length d2] 29)).cell? ⟨v4.heap.size, 1, none⟩ = some (.string xt)) := hide (by rw [World.cell?_alloc_new]; rfl)
  have C2 : Hid ((v4.alloc (Obj.cells #[Value.int IntKind.i64 xk, Value.string xt, Value.slice p2 n.kids.length d2] 29)).cell? ⟨v4.heap.size, 2, none⟩ = some (.slice p2 n.kids.length d2)) := hide (by rw [World.cell?_alloc_new]; rfl)
  clear hrd2 hb4 HZ0 HZ1 HZ2 HB3
  go_wp2_with (go_at_call 7; refine (unhide IN _ _ (RdK_later (bal (brf _) _) (unhide R2)) (Gd_later (unhide HG) (bal (unhide HB4) _)) (Ops_later (unhide HO) (bal (unhide HB4) _))).mono ?_; rintro e v5 ⟨rfl, hb5⟩)
  have i0 := cell_later hb5 (unhide C0)
  have i1 := cell_later hb5 (unhide C1)
  have i2 := cell_later hb5 (unhide C2)
  have h0 := cell_later hb5 (cell_later (bal (brf v4) (Obj.cells #[Value.int IntKind.i64 xk, Value.string xt, Value.slice p2 n.kids.length d2] 29)) (unhide HX0))
  have h1 := cell_later hb5 (cell_later (bal (brf v4) (Obj.cells #[Value.int IntKind.i64 xk, Value.string xt, Value.slice p2 n.kids.length d2] 29)) (unhide HX1))
  have h2 := cell_later hb5 (cell_later (bal (brf v4) (Obj.cells #[Value.int IntKind.i64 xk, Value.string xt, Value.slice p2 n.kids.length d2] 29)) (unhide HX2))
  have HB5 := hide (btr (bal (unhide HB4) _) hb5)
  have R5 := hide (RdK_later hb5 (RdK_later (bal (brf v4) _) (unhide R2)))
  clear hb5 C0 C1 C2 HX0 HX1 HX2 R2 HB4 IN
  go_region_held3 (fun w' => w'.cell? ⟨v4.heap.size, 0, none⟩ = some (.int .i64 xk) ∧ w'.cell? ⟨v4.heap.size, 1, none⟩ = some (.string xt) ∧ w'.cell? ⟨v4.heap.size, 2, none⟩ = some (.slice p2 n.kids.length d2) ∧ w'.cell? ⟨w.heap.size, 0, none⟩ = some (.int .i64 xk) ∧ w'.cell? ⟨w.heap.size, 1, none⟩ = some (.string xt) ∧ w'.cell? ⟨w.heap.size, 2, none⟩ = some (.slice a0 n.kids.length c0) ∧ Below v5.heap.size v5 w')
    (first | (exact ⟨i0, i1, i2, h0, h1, h2, bdr (brf _)⟩) | (exact keepL6 (by assumption) hb7) | (exact keepL6 (by assumption) hb6))
    (first | (go_at_call 6; refine (unhide TO _ (RdK_later (btr (unhide HB5) (belowL6 (by assumption))) (unhide HR))).mono ?_; rintro e v6 ⟨⟨u3, rfl, hrd3⟩, hb6⟩; have R3 := hide (RdB_mono (Nat.zero_le _) hrd3); obtain ⟨p3, d3, rfl⟩ := RdB_slice hrd3; clear hrd3) | (go_at_call 8; refine (unhide EQ _ _ _ (RdK_later (belowL6 (by assumption)) (unhide R5)) (unhide R3)).mono ?_; rintro e v7 ⟨rfl, hb7⟩))
  all_goals
    have hSf : Below v5.heap.size v5 v7 := belowL6 (by assumption)
    have HB7 := hide (btr (unhide HB5) hSf)
    go_wp2
    exact bodyPost_ret (v := .bool true) (by simp [results, Tryz.results3, go_sem]) rfl ⟨rfl, unhide HB7⟩
end Go.Proofs.YtlcpmbdckmdabaaGreatDoor
