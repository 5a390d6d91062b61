/- Parts of the proof: PS11 to PS12. -/
import Derived.Test.YtddlokkejglckaaGreatDoorMPS6
namespace Go.Proofs.YtddlokkejglckaaGreatDoor
open Go.RowKit Nt
set_option linter.unusedVariables false
set_option maxRecDepth 100000
def portsT (ks : List Nd) : List Tok := sepL [44] (ks.map fun p => (tk p).drop 1)
theorem portsT_next {ks : List Nd} {j : Nat} {p : Nd} (hx : ks[j]? = some p) : portsT (ks.take (j + 1)) = portsT (ks.take j) ++ ((if 0 < j then [[44]] else []) ++ (tk p).drop 1) := by
 have hj : j < ks.length := (List.getElem?_eq_some_iff.1 hx).1
 have e : ks.take (j + 1) = ks.take j ++ [p] := by rw [List.take_add_one, hx]; rfl
 unfold portsT
 rw [e, List.map_append, List.map_singleton, sepL_snoc]
 by_cases h : 0 < j
 · have h2 : (ks.take j).map (fun p => (tk p).drop 1) ≠ [] := by
     rw [Ne, ← List.length_eq_zero_iff, List.length_map, List.length_take]; omega
   rw [if_neg h2, if_pos h]; simp
 · have h2 : (ks.take j).map (fun p => (tk p).drop 1) = [] := by
     rw [← List.length_eq_zero_iff, List.length_map, List.length_take]; omega
   rw [if_pos h2, if_neg h, h2]; simp [sepL]
theorem sepL_pre (s : Tok) (K R : List (List Tok)) : ∃ Q, sepL s (K ++ R) = sepL s K ++ Q := by
 refine snocInd (p := fun R => ∃ Q, sepL s (K ++ R) = sepL s K ++ Q) ⟨[], by simp⟩ ?_ R
 rintro R y ⟨Q, hQ⟩
 rw [← List.append_assoc, sepL_snoc]
 by_cases h : K ++ R = []
 · rw [if_pos h]
   have hk : K = [] := (List.append_eq_nil_iff.1 h).1
   subst hk
   exact ⟨y, by simp [sepL]⟩
 · rw [if_neg h, hQ, List.append_assoc]; exact ⟨_, rfl⟩
theorem portsT_take (ks : List Nd) (j : Nat) : sizeT (portsT (ks.take j)) ≤ sizeT (portsT ks) := by
 unfold portsT
 obtain ⟨Q, hQ⟩ := sepL_pre [44] ((ks.map fun p => (tk p).drop 1).take j) ((ks.map fun p => (tk p).drop 1).drop j)
 rw [List.take_append_drop] at hQ
 rw [hQ, List.map_take, sizeT_app]; omega
def PortC (p : Nd) : Prop := ∃ q, p.kids = [q] ∧ (tk p).drop 1 = tk q ++ [L p.text] ∧ SpC q ∧ fmP q
set_option maxHeartbeats 1600000 in
theorem sp19 (n : Nd) (x y z : Nd) (v : Value) (W0 w : World) (pb : Nat) (T : List Tok) (ov : Value) (ht : n.text.size ≤ maxLen) (hr : RdK W0 n.kids v) (hb : Below W0.heap.size W0 w) (hp : W0.heap.size ≤ pb) (hpo : Po pb T ov w) (hz : sizeT (T ++ [[102, 117, 110, 99]] ++ tk x ++ [L n.text] ++ [[40]] ++ portsT y.kids ++ [[41]] ++ [[61]] ++ tk z ++ [[59]]) ≤ 1099511627776) (hk : n.kind = 19) (hks : n.kids = [x, y, z]) (ix : SpC x) (qx : fmP x) (iz : SpC z) (qz : fmP z) (hpt : ∀ p ∈ y.kids, PortC p) :
   Calls Tryz.prog 21 #[.pointer (some ⟨pb, 0, none⟩), ndV n v] w fun e w' => e = .returned (.tuple #[]) ∧ ∃ ov', Po pb (T ++ [[102, 117, 110, 99]] ++ tk x ++ [L n.text] ++ [[40]] ++ portsT y.kids ++ [[41]] ++ [[61]] ++ tk z ++ [[59]]) ov' w' ∧ Pr pb ov ov' w w' := by
 rcases RdK_cases hr with ⟨h0, _⟩ | ⟨b, o, c, vs, hv, hn, hcs⟩
 · rw [hks] at h0; cases h0
 subst hv
 obtain ⟨kx1, kx2, kx3, tx, rx⟩ := hcs 0 x (by rw [hks]; rfl)
 obtain ⟨ax, cx, hvx⟩ := RdK_slice rx
 rw [hvx] at kx3 rx
 obtain ⟨ky1, ky2, ky3, ty, ry⟩ := hcs 1 y (by rw [hks]; rfl)
 obtain ⟨ay, cy, hvy⟩ := RdK_slice ry
 rw [hvy] at ky3 ry
 obtain ⟨kz1, kz2, kz3, tz, rz⟩ := hcs 2 z (by rw [hks]; rfl)
 obtain ⟨az, cz, hvz⟩ := RdK_slice rz
 rw [hvz] at kz3 rz
 simp only [Nat.zero_mul, Nat.add_zero, Nat.one_mul] at kx1 kx2 kx3 ky1 ky2 ky3 kz1 kz2 kz3
 have hlen : n.kids.length = 3 := by rw [hks]; rfl
 have hly := len_okP ry
 rw [hlen]
 have ST := h_ (Stt.start (n := n) (nv := .slice (some ⟨b, o, none⟩) 3 c) hb hpo 30)
 have zz : ∀ j, sizeT (T ++ [[102, 117, 110, 99]] ++ tk x ++ [L n.text] ++ [[40]] ++ portsT (y.kids.take j)) ≤ 1099511627776 := by
   intro j
   have := portsT_take y.kids j
   simp only [sizeT_app] at hz ⊢; omega
 have C1 : Hid (∀ W ov', Stt W0 pb w.heap.size n (.slice (some ⟨b, o, none⟩) 3 c) w ov T ov' W → Calls Tryz.prog 20 #[.pointer (some ⟨pb, 0, none⟩), .string ⟨#[102, 117, 110, 99]⟩] W fun e w' => e = .returned (.tuple #[]) ∧ ∃ ov'', Stt W0 pb w.heap.size n (.slice (some ⟨b, o, none⟩) 3 c) w ov (T ++ [[102, 117, 110, 99]]) ov'' w') := h_ (stt_put hp ⟨#[102, 117, 110, 99]⟩ [102, 117, 110, 99] rfl (by simp only [sizeT_app] at hz ⊢; omega))
 have C2 : Hid (SC W0 pb n (.slice (some ⟨b, o, none⟩) 3 c) w ov 21 [.agg #[.int .i64 x.kind, .string x.text, .slice ax x.kids.length cx]] (T ++ [[102, 117, 110, 99]]) (T ++ [[102, 117, 110, 99]] ++ tk x)) := h_ (stt_node hp ix qx tx rx (by simp only [sizeT_app] at hz ⊢; omega))
 have C3 : Hid (SC W0 pb n (.slice (some ⟨b, o, none⟩) 3 c) w ov 20 [.string n.text] (T ++ [[102, 117, 110, 99]] ++ tk x) (T ++ [[102, 117, 110, 99]] ++ tk x ++ [L n.text])) := h_ (stt_put hp n.text (L n.text) rfl (by simp only [sizeT_app] at hz ⊢; omega))
 have C4 : Hid (SC W0 pb n (.slice (some ⟨b, o, none⟩) 3 c) w ov 20 [.string ⟨#[40]⟩] (T ++ [[102, 117, 110, 99]] ++ tk x ++ [L n.text]) (T ++ [[102, 117, 110, 99]] ++ tk x ++ [L n.text] ++ [[40]])) := h_ (stt_put hp ⟨#[40]⟩ [40] rfl (by simp only [sizeT_app] at hz ⊢; omega))
 have C5 : Hid (SC W0 pb n (.slice (some ⟨b, o, none⟩) 3 c) w ov 20 [.string ⟨#[41]⟩] (T ++ [[102, 117, 110, 99]] ++ tk x ++ [L n.text] ++ [[40]] ++ portsT y.kids) (T ++ [[102, 117, 110, 99]] ++ tk x ++ [L n.text] ++ [[40]] ++ portsT y.kids ++ [[41]])) := h_ (stt_put hp ⟨#[41]⟩ [41] rfl (by simp only [sizeT_app] at hz ⊢; omega))
 have C6 : Hid (SC W0 pb n (.slice (some ⟨b, o, none⟩) 3 c) w ov 20 [.string ⟨#[61]⟩] (T ++ [[102, 117, 110, 99]] ++ tk x ++ [L n.text] ++ [[40]] ++ portsT y.kids ++ [[41]]) (T ++ [[102, 117, 110, 99]] ++ tk x ++ [L n.text] ++ [[40]] ++ portsT y.kids ++ [[41]] ++ [[61]])) := h_ (stt_put hp ⟨#[61]⟩ [61] rfl (by simp only [sizeT_app] at hz ⊢; omega))
 have C7 : Hid (SC W0 pb n (.slice (some ⟨b, o, none⟩) 3 c) w ov 21 [.agg #[.int .i64 z.kind, .string z.text, .slice az z.kids.length cz]] (T ++ [[102, 117, 110, 99]] ++ tk x ++ [L n.text] ++ [[40]] ++ portsT y.kids ++ [[41]] ++ [[61]]) (T ++ [[102, 117, 110, 99]] ++ tk x ++ [L n.text] ++ [[40]] ++ portsT y.kids ++ [[41]] ++ [[61]] ++ tk z)) := h_ (stt_node hp iz qz tz rz (by simp only [sizeT_app] at hz ⊢; omega))
 have C8 : Hid (SC W0 pb n (.slice (some ⟨b, o, none⟩) 3 c) w ov 20 [.string ⟨#[59]⟩] (T ++ [[102, 117, 110, 99]] ++ tk x ++ [L n.text] ++ [[40]] ++ portsT y.kids ++ [[41]] ++ [[61]] ++ tk z) (T ++ [[102, 117, 110, 99]] ++ tk x ++ [L n.text] ++ [[40]] ++ portsT y.kids ++ [[41]] ++ [[61]] ++ tk z ++ [[59]])) := h_ (stt_put hp ⟨#[59]⟩ [59] rfl hz)
 have HZZ := h_ zz
 have HRY := h_ ry
 have HPT := h_ hpt
 have HKx1 := h_ kx1
 have HKx2 := h_ kx2
 have HKx3 := h_ kx3
 have HKy1 := h_ ky1
 have HKy2 := h_ ky2
 have HKy3 := h_ ky3
 have HKz1 := h_ kz1
 have HKz2 := h_ kz2
 have HKz3 := h_ kz3
 unfold ndV
 have HK := h_ hk
 have hs0 := u_ ST
 have y0_0 := hs0.c0
 have y1_0 := hs0.c1
 have y2_0 := hs0.c2
 clear ST ht hb hpo hz hr hcs rx kx1 kx2 kx3 ix qx ry ky1 ky2 ky3 rz kz1 kz2 kz3 iz qz zz hpt
 rw [hk] at hs0 y0_0 y1_0 y2_0 ⊢
 generalize hnt : n.text = ntx at *
 generalize x.kind = xk at *
 generalize x.text = xt at *
 generalize y.kind = yk at *
 generalize y.text = yt at *
 generalize z.kind = zk at *
 generalize z.text = zt at *
 go_enter Tryz.func21, Tryz.ntmps21
 go_wp2_with (first
   | (go_at_call_of 20 (Value.string ⟨#[40]⟩); refine (u_ C4 _ _ hs3).mono ?_; rintro e w4 ⟨rfl, ov4, hs4⟩; have y2_4 := hs4.c2)
   | (go_at_call_of 20 (Value.string ntx); refine (u_ C3 _ _ hs2).mono ?_; rintro e w3 ⟨rfl, ov3, hs3⟩; have y1_3 := hs3.c1; have y2_3 := hs3.c2)
   | (go_at_call_of 21 (Value.agg #[Value.int IntKind.i64 xk, Value.string xt, Value.slice ax x.kids.length cx]); refine (u_ C2 _ _ hs1).mono ?_; rintro e w2 ⟨rfl, ov2, hs2⟩; have y1_2 := hs2.c1; have y2_2 := hs2.c2; rw [hnt] at y1_2)
   | (go_at_call_of 20 (Value.string ⟨#[102, 117, 110, 99]⟩); refine (u_ C1 _ _ hs0).mono ?_; rintro e w1 ⟨rfl, ov1, hs1⟩; have y1_1 := hs1.c1; have y2_1 := hs1.c2; rw [hnt] at y1_1; have mx1_1 := c_ hs1.b (u_ HKx1); have mx2_1 := c_ hs1.b (u_ HKx2); have mx3_1 := c_ hs1.b (u_ HKx3)))
 have HS4 := h_ hs4
 clear hs0 hs1 hs2 hs3 hs4 y0_0 y1_0 y2_0 y1_1 y2_1 y1_2 y2_2 y1_3 y2_3 y2_4 mx1_1 mx2_1 mx3_1 C1 C2 C3 C4
 go_loopw [5] (fun i wr => ∃ (j : Nat) (ovj : Value), i = .int .i64 j ∧ j ≤ y.kids.length ∧ Stt W0 pb w.heap.size n (.slice (some ⟨b, o, none⟩) 3 c) w ov (T ++ [[102, 117, 110, 99]] ++ tk x ++ [L ntx] ++ [[40]] ++ portsT (y.kids.take j)) ovj wr) (fun i wr => y.kids.length - (intOf i).toNat)
 case atStart => exact ⟨0, ov4, rfl, Nat.zero_le _, by have e : portsT (y.kids.take 0) = [] := rfl
                                                       rw [e, List.append_nil]; exact u_ HS4⟩
 case round =>
   obtain ⟨j, ovj, rfl, hj, hsj⟩ := hrel
   have HSJ := h_ hsj
   have ny1 := c_ hsj.b (u_ HKy1)
   have ny2 := c_ hsj.b (u_ HKy2)
   have ny3 := c_ hsj.b (u_ HKy3)
   by_cases hjn : j < y.kids.length
   · have hx : y.kids[j]? = some y.kids[j] := List.getElem?_eq_getElem hjn
     generalize y.kids[j] = p at hx
     obtain ⟨q, hpk, htk, iq, qq⟩ := u_ HPT p (List.mem_of_getElem? hx)
     have hnx := portsT_next hx
     rw [htk] at hnx
     rcases RdK_cases (u_ HRY) with ⟨h0, _⟩ | ⟨b2, o2, c2, vs2, hv2, hn2, hcs2⟩
     · rw [h0] at hjn; simp at hjn
     obtain ⟨ha, hc⟩ : ay = some ⟨b2, o2, none⟩ ∧ cy = c2 := by injection hv2 with h1 h2 h3; exact ⟨h1, h3⟩
     subst ha hc
     obtain ⟨p1, p2, p3, tp, rp⟩ := hcs2 j p hx
     rcases RdK_cases rp with ⟨h0, _⟩ | ⟨b3, o3, c3, vs3, hv3, hn3, hcs3⟩
     · rw [hpk] at h0; cases h0
     rw [hv3] at p3
     have hpl : p.kids.length = 1 := by rw [hpk]; rfl
     rw [hpl] at p3
     obtain ⟨q1, q2, q3, tq, rq⟩ := hcs3 0 q (by rw [hpk]; rfl)
     simp only [Nat.zero_mul, Nat.add_zero] at q1 q2 q3
     obtain ⟨aq, cq, hvq⟩ := RdK_slice rq
     rw [hvq] at q3 rq
     have hz2 := u_ HZZ (j + 1)
     rw [hnx] at hz2
     clear ny1 ny2 ny3
     by_cases h0 : 0 < j
     · rw [if_pos h0] at hnx hz2
       have h0' : (0 : Int) < (j : Int) := by omega
       have D1 : Hid (SC W0 pb n (.slice (some ⟨b, o, none⟩) 3 c) w ov 20 [.string ⟨#[44]⟩] (T ++ [[102, 117, 110, 99]] ++ tk x ++ [L ntx] ++ [[40]] ++ portsT (y.kids.take j)) (T ++ [[102, 117, 110, 99]] ++ tk x ++ [L ntx] ++ [[40]] ++ portsT (y.kids.take j) ++ [[44]])) := h_ (stt_put hp ⟨#[44]⟩ [44] rfl (by simp only [sizeT_app] at hz2 ⊢; omega))
       have D2 : Hid (SC W0 pb n (.slice (some ⟨b, o, none⟩) 3 c) w ov 21 [.agg #[.int .i64 q.kind, .string q.text, .slice aq q.kids.length cq]] (T ++ [[102, 117, 110, 99]] ++ tk x ++ [L ntx] ++ [[40]] ++ portsT (y.kids.take j) ++ [[44]]) (T ++ [[102, 117, 110, 99]] ++ tk x ++ [L ntx] ++ [[40]] ++ portsT (y.kids.take j) ++ [[44]] ++ tk q)) := h_ (stt_node hp iq qq tq rq (by simp only [sizeT_app] at hz2 ⊢; omega))
       have D3 : Hid (SC W0 pb n (.slice (some ⟨b, o, none⟩) 3 c) w ov 20 [.string p.text] (T ++ [[102, 117, 110, 99]] ++ tk x ++ [L ntx] ++ [[40]] ++ portsT (y.kids.take j) ++ [[44]] ++ tk q) (T ++ [[102, 117, 110, 99]] ++ tk x ++ [L ntx] ++ [[40]] ++ portsT (y.kids.take j) ++ [[44]] ++ tk q ++ [L p.text])) := h_ (stt_put hp p.text (L p.text) rfl (by simp only [sizeT_app] at hz2 ⊢; omega))
       have HE : Hid (T ++ [[102, 117, 110, 99]] ++ tk x ++ [L ntx] ++ [[40]] ++ portsT (y.kids.take (j + 1)) = T ++ [[102, 117, 110, 99]] ++ tk x ++ [L ntx] ++ [[40]] ++ portsT (y.kids.take j) ++ [[44]] ++ tk q ++ [L p.text]) := h_ (by rw [hnx]; simp [List.append_assoc])
       have g0 := u_ HSJ
       have n1_0 := c_ g0.b (u_ HKy1)
       have n2_0 := c_ g0.b (u_ HKy2)
       have n3_0 := c_ g0.b (u_ HKy3)
       have u1_0 := c_ g0.b p1
       have u2_0 := c_ g0.b p2
       have u3_0 := c_ g0.b p3
       have v1_0 := c_ g0.b q1
       have v2_0 := c_ g0.b q2
       have v3_0 := c_ g0.b q3
       clear hsj HSJ hnx hz2 htk rp rq iq qq hcs2 hcs3 hv2 hv3
       generalize hpx : p.text = pt at *
       generalize q.kind = qk at *
       generalize q.text = qt at *
       generalize p.kind = pk at *
       go_wp2_with (first
         | (go_at_call_of 20 (Value.string pt); refine (u_ D3 _ _ g2).mono ?_; rintro e x3 ⟨rfl, z3, g3⟩)
         | (go_at_call_of 21 (Value.agg #[Value.int IntKind.i64 qk, Value.string qt, Value.slice aq q.kids.length cq]); refine (u_ D2 _ _ g1).mono ?_; rintro e x2 ⟨rfl, z2, g2⟩; have n1_2 := c_ g2.b (u_ HKy1); have n2_2 := c_ g2.b (u_ HKy2); have n3_2 := c_ g2.b (u_ HKy3); have u1_2 := c_ g2.b p1; have u2_2 := c_ g2.b p2; have u3_2 := c_ g2.b p3; have v1_2 := c_ g2.b q1; have v2_2 := c_ g2.b q2; have v3_2 := c_ g2.b q3)
         | (go_at_call_of 20 (Value.string ⟨#[44]⟩); refine (u_ D1 _ _ g0).mono ?_; rintro e x1 ⟨rfl, z1, g1⟩; have n1_1 := c_ g1.b (u_ HKy1); have n2_1 := c_ g1.b (u_ HKy2); have n3_1 := c_ g1.b (u_ HKy3); have u1_1 := c_ g1.b p1; have u2_1 := c_ g1.b p2; have u3_1 := c_ g1.b p3; have v1_1 := c_ g1.b q1; have v2_1 := c_ g1.b q2; have v3_1 := c_ g1.b q3))
       exact ⟨⟨j + 1, z3, by go_num, by omega, by rw [u_ HE]; exact g3⟩, by simp [intOf]; omega⟩
     · rw [if_neg h0, List.nil_append] at hnx hz2
       have h0' : ¬ ((0 : Int) < (j : Int)) := by omega
       have D2 : Hid (SC W0 pb n (.slice (some ⟨b, o, none⟩) 3 c) w ov 21 [.agg #[.int .i64 q.kind, .string q.text, .slice aq q.kids.length cq]] (T ++ [[102, 117, 110, 99]] ++ tk x ++ [L ntx] ++ [[40]] ++ portsT (y.kids.take j)) (T ++ [[102, 117, 110, 99]] ++ tk x ++ [L ntx] ++ [[40]] ++ portsT (y.kids.take j) ++ tk q)) := h_ (stt_node hp iq qq tq rq (by simp only [sizeT_app] at hz2 ⊢; omega))
       have D3 : Hid (SC W0 pb n (.slice (some ⟨b, o, none⟩) 3 c) w ov 20 [.string p.text] (T ++ [[102, 117, 110, 99]] ++ tk x ++ [L ntx] ++ [[40]] ++ portsT (y.kids.take j) ++ tk q) (T ++ [[102, 117, 110, 99]] ++ tk x ++ [L ntx] ++ [[40]] ++ portsT (y.kids.take j) ++ tk q ++ [L p.text])) := h_ (stt_put hp p.text (L p.text) rfl (by simp only [sizeT_app] at hz2 ⊢; omega))
       have HE : Hid (T ++ [[102, 117, 110, 99]] ++ tk x ++ [L ntx] ++ [[40]] ++ portsT (y.kids.take (j + 1)) = T ++ [[102, 117, 110, 99]] ++ tk x ++ [L ntx] ++ [[40]] ++ portsT (y.kids.take j) ++ tk q ++ [L p.text]) := h_ (by rw [hnx]; simp [List.append_assoc])
       have g0 := u_ HSJ
       have n1_0 := c_ g0.b (u_ HKy1)
       have n2_0 := c_ g0.b (u_ HKy2)
       have n3_0 := c_ g0.b (u_ HKy3)
       have u1_0 := c_ g0.b p1
       have u2_0 := c_ g0.b p2
       have u3_0 := c_ g0.b p3
       have v1_0 := c_ g0.b q1
       have v2_0 := c_ g0.b q2
       have v3_0 := c_ g0.b q3
       clear hsj HSJ hnx hz2 htk rp rq iq qq hcs2 hcs3 hv2 hv3
       generalize hpx : p.text = pt at *
       generalize q.kind = qk at *
       generalize q.text = qt at *
       generalize p.kind = pk at *
       go_wp2_with (first
         | (go_at_call_of 20 (Value.string pt); refine (u_ D3 _ _ g2).mono ?_; rintro e x3 ⟨rfl, z3, g3⟩)
         | (go_at_call_of 21 (Value.agg #[Value.int IntKind.i64 qk, Value.string qt, Value.slice aq q.kids.length cq]); refine (u_ D2 _ _ g0).mono ?_; rintro e x2 ⟨rfl, z2, g2⟩; have n1_2 := c_ g2.b (u_ HKy1); have n2_2 := c_ g2.b (u_ HKy2); have n3_2 := c_ g2.b (u_ HKy3); have u1_2 := c_ g2.b p1; have u2_2 := c_ g2.b p2; have u3_2 := c_ g2.b p3; have v1_2 := c_ g2.b q1; have v2_2 := c_ g2.b q2; have v3_2 := c_ g2.b q3))
       exact ⟨⟨j + 1, z3, by go_num, by omega, by rw [u_ HE]; exact g3⟩, by simp [intOf]; omega⟩
   · obtain rfl : j = y.kids.length := by omega
     rw [List.take_length] at hsj
     have nz1 := c_ hsj.b (u_ HKz1)
     clear HSJ nz1
     go_wp2_with (first
       | (go_at_call_of 20 (Value.string ⟨#[59]⟩); refine (u_ C8 _ _ hs7).mono ?_; rintro e w8 ⟨rfl, ov8, hs8⟩)
       | (go_at_call_of 21 (Value.agg #[Value.int IntKind.i64 zk, Value.string zt, Value.slice az z.kids.length cz]); refine (u_ C7 _ _ hs6).mono ?_; rintro e w7 ⟨rfl, ov7, hs7⟩)
       | (go_at_call_of 20 (Value.string ⟨#[61]⟩); refine (u_ C6 _ _ hs5).mono ?_; rintro e w6 ⟨rfl, ov6, hs6⟩; have q1 := c_ hs6.b (u_ HKz1); have q2 := c_ hs6.b (u_ HKz2); have q3 := c_ hs6.b (u_ HKz3))
       | (go_at_call_of 20 (Value.string ⟨#[41]⟩); refine (u_ C5 _ _ hsj).mono ?_; rintro e w5 ⟨rfl, ov5, hs5⟩))
     exact e21 rfl ⟨rfl, ov8, hs8.po, hs8.pr⟩
def SD (n : Nd) (v : Value) (W0 : World) (pb : Nat) (T S : List Tok) : Prop := ∀ (W : World) (ov' : Value), Po pb T ov' W → Below W0.heap.size W0 W → Calls Tryz.prog 36 #[.pointer (some ⟨pb, 0, none⟩), ndV n v] W fun e w' => e = .returned (.tuple #[]) ∧ ∃ ov'', Po pb S ov'' w' ∧ Pr pb ov' ov'' W w'
theorem spD36 (n : Nd) (v : Value) (W0 w : World) (pb : Nat) (T S : List Tok) (ov : Value) (hr : RdK W0 n.kids v) (hb : Below W0.heap.size W0 w) (hp : W0.heap.size ≤ pb) (hpo : Po pb T ov w) (hk : n.kind = 36)
   (hE : SD n v W0 pb T S) :
   Calls Tryz.prog 21 #[.pointer (some ⟨pb, 0, none⟩), ndV n v] w fun e w' => e = .returned (.tuple #[]) ∧ ∃ ov', Po pb S ov' w' ∧ Pr pb ov ov' w w' := by
 unfold SD at hE
 have HE := h_ hE
 have HPO := h_ hpo
 have HB := h_ hb
 obtain ⟨a0, c0, rfl⟩ := RdK_slice hr
 unfold ndV at HE ⊢
 rw [hk] at HE ⊢
 clear hr hpo hE hb
 generalize n.text = ntx at *
 go_enter Tryz.func21, Tryz.ntmps21
 go_wp2_with (go_at_call 36; refine (u_ HE _ _ ((u_ HPO).alloc _) ((u_ HB).alloc (u_ HB).size _)).mono ?_; rintro e w1 ⟨rfl, ov1, p1, r1⟩)
 exact e21 rfl ⟨rfl, ov1, p1, (Pr.ofAlloc pb ov w _).trans r1⟩
theorem spD37 (n : Nd) (v : Value) (W0 w : World) (pb : Nat) (T S : List Tok) (ov : Value) (hr : RdK W0 n.kids v) (hb : Below W0.heap.size W0 w) (hp : W0.heap.size ≤ pb) (hpo : Po pb T ov w) (hk : n.kind = 37)
   (hE : SD n v W0 pb T S) :
   Calls Tryz.prog 21 #[.pointer (some ⟨pb, 0, none⟩), ndV n v] w fun e w' => e = .returned (.tuple #[]) ∧ ∃ ov', Po pb S ov' w' ∧ Pr pb ov ov' w w' := by
 unfold SD at hE
 have HE := h_ hE
 have HPO := h_ hpo
 have HB := h_ hb
 obtain ⟨a0, c0, rfl⟩ := RdK_slice hr
 unfold ndV at HE ⊢
 rw [hk] at HE ⊢
 clear hr hpo hE hb
 generalize n.text = ntx at *
 go_enter Tryz.func21, Tryz.ntmps21
 go_wp2_with (go_at_call 36; refine (u_ HE _ _ ((u_ HPO).alloc _) ((u_ HB).alloc (u_ HB).size _)).mono ?_; rintro e w1 ⟨rfl, ov1, p1, r1⟩)
 exact e21 rfl ⟨rfl, ov1, p1, (Pr.ofAlloc pb ov w _).trans r1⟩
theorem spD38 (n : Nd) (v : Value) (W0 w : World) (pb : Nat) (T S : List Tok) (ov : Value) (hr : RdK W0 n.kids v) (hb : Below W0.heap.size W0 w) (hp : W0.heap.size ≤ pb) (hpo : Po pb T ov w) (hk : n.kind = 38)
   (hE : SD n v W0 pb T S) :
   Calls Tryz.prog 21 #[.pointer (some ⟨pb, 0, none⟩), ndV n v] w fun e w' => e = .returned (.tuple #[]) ∧ ∃ ov', Po pb S ov' w' ∧ Pr pb ov ov' w w' := by
 unfold SD at hE
 have HE := h_ hE
 have HPO := h_ hpo
 have HB := h_ hb
 obtain ⟨a0, c0, rfl⟩ := RdK_slice hr
 unfold ndV at HE ⊢
 rw [hk] at HE ⊢
 clear hr hpo hE hb
 generalize n.text = ntx at *
 go_enter Tryz.func21, Tryz.ntmps21
 go_wp2_with (go_at_call 36; refine (u_ HE _ _ ((u_ HPO).alloc _) ((u_ HB).alloc (u_ HB).size _)).mono ?_; rintro e w1 ⟨rfl, ov1, p1, r1⟩)
 exact e21 rfl ⟨rfl, ov1, p1, (Pr.ofAlloc pb ov w _).trans r1⟩
theorem spD39 (n : Nd) (v : Value) (W0 w : World) (pb : Nat) (T S : List Tok) (ov : Value) (hr : RdK W0 n.kids v) (hb : Below W0.heap.size W0 w) (hp : W0.heap.size ≤ pb) (hpo : Po pb T ov w) (hk : n.kind = 39)
   (hE : SD n v W0 pb T S) :
   Calls Tryz.prog 21 #[.pointer (some ⟨pb, 0, none⟩), ndV n v] w fun e w' => e = .returned (.tuple #[]) ∧ ∃ ov', Po pb S ov' w' ∧ Pr pb ov ov' w w' := by
 unfold SD at hE
 have HE := h_ hE
 have HPO := h_ hpo
 have HB := h_ hb
 obtain ⟨a0, c0, rfl⟩ := RdK_slice hr
 unfold ndV at HE ⊢
 rw [hk] at HE ⊢
 clear hr hpo hE hb
 generalize n.text = ntx at *
 go_enter Tryz.func21, Tryz.ntmps21
 go_wp2_with (go_at_call 36; refine (u_ HE _ _ ((u_ HPO).alloc _) ((u_ HB).alloc (u_ HB).size _)).mono ?_; rintro e w1 ⟨rfl, ov1, p1, r1⟩)
 exact e21 rfl ⟨rfl, ov1, p1, (Pr.ofAlloc pb ov w _).trans r1⟩
theorem spD40 (n : Nd) (v : Value) (W0 w : World) (pb : Nat) (T S : List Tok) (ov : Value) (hr : RdK W0 n.kids v) (hb : Below W0.heap.size W0 w) (hp : W0.heap.size ≤ pb) (hpo : Po pb T ov w) (hk : n.kind = 40)
   (hE : SD n v W0 pb T S) :
   Calls Tryz.prog 21 #[.pointer (some ⟨pb, 0, none⟩), ndV n v] w fun e w' => e = .returned (.tuple #[]) ∧ ∃ ov', Po pb S ov' w' ∧ Pr pb ov ov' w w' := by
 unfold SD at hE
 have HE := h_ hE
 have HPO := h_ hpo
 have HB := h_ hb
 obtain ⟨a0, c0, rfl⟩ := RdK_slice hr
 unfold ndV at HE ⊢
 rw [hk] at HE ⊢
 clear hr hpo hE hb
 generalize n.text = ntx at *
 go_enter Tryz.func21, Tryz.ntmps21
 go_wp2_with (go_at_call 36; refine (u_ HE _ _ ((u_ HPO).alloc _) ((u_ HB).alloc (u_ HB).size _)).mono ?_; rintro e w1 ⟨rfl, ov1, p1, r1⟩)
 exact e21 rfl ⟨rfl, ov1, p1, (Pr.ofAlloc pb ov w _).trans r1⟩
theorem spD41 (n : Nd) (v : Value) (W0 w : World) (pb : Nat) (T S : List Tok) (ov : Value) (hr : RdK W0 n.kids v) (hb : Below W0.heap.size W0 w) (hp : W0.heap.size ≤ pb) (hpo : Po pb T ov w) (hk : n.kind = 41)
   (hE : SD n v W0 pb T S) :
   Calls Tryz.prog 21 #[.pointer (some ⟨pb, 0, none⟩), ndV n v] w fun e w' => e = .returned (.tuple #[]) ∧ ∃ ov', Po pb S ov' w' ∧ Pr pb ov ov' w w' := by
 unfold SD at hE
 have HE := h_ hE
 have HPO := h_ hpo
 have HB := h_ hb
 obtain ⟨a0, c0, rfl⟩ := RdK_slice hr
 unfold ndV at HE ⊢
 rw [hk] at HE ⊢
 clear hr hpo hE hb
 generalize n.text = ntx at *
 go_enter Tryz.func21, Tryz.ntmps21
 go_wp2_with (go_at_call 36; refine (u_ HE _ _ ((u_ HPO).alloc _) ((u_ HB).alloc (u_ HB).size _)).mono ?_; rintro e w1 ⟨rfl, ov1, p1, r1⟩)
 exact e21 rfl ⟨rfl, ov1, p1, (Pr.ofAlloc pb ov w _).trans r1⟩
theorem spD42 (n : Nd) (v : Value) (W0 w : World) (pb : Nat) (T S : List Tok) (ov : Value) (hr : RdK W0 n.kids v) (hb : Below W0.heap.size W0 w) (hp : W0.heap.size ≤ pb) (hpo : Po pb T ov w) (hk : n.kind = 42)
   (hE : SD n v W0 pb T S) :
   Calls Tryz.prog 21 #[.pointer (some ⟨pb, 0, none⟩), ndV n v] w fun e w' => e = .returned (.tuple #[]) ∧ ∃ ov', Po pb S ov' w' ∧ Pr pb ov ov' w w' := by
 unfold SD at hE
 have HE := h_ hE
 have HPO := h_ hpo
 have HB := h_ hb
 obtain ⟨a0, c0, rfl⟩ := RdK_slice hr
 unfold ndV at HE ⊢
 rw [hk] at HE ⊢
 clear hr hpo hE hb
 generalize n.text = ntx at *
 go_enter Tryz.func21, Tryz.ntmps21
 go_wp2_with (go_at_call 36; refine (u_ HE _ _ ((u_ HPO).alloc _) ((u_ HB).alloc (u_ HB).size _)).mono ?_; rintro e w1 ⟨rfl, ov1, p1, r1⟩)
 exact e21 rfl ⟨rfl, ov1, p1, (Pr.ofAlloc pb ov w _).trans r1⟩
theorem spD43 (n : Nd) (v : Value) (W0 w : World) (pb : Nat) (T S : List Tok) (ov : Value) (hr : RdK W0 n.kids v) (hb : Below W0.heap.size W0 w) (hp : W0.heap.size ≤ pb) (hpo : Po pb T ov w) (hk : n.kind = 43)
   (hE : SD n v W0 pb T S) :
   Calls Tryz.prog 21 #[.pointer (some ⟨pb, 0, none⟩), ndV n v] w fun e w' => e = .returned (.tuple #[]) ∧ ∃ ov', Po pb S ov' w' ∧ Pr pb ov ov' w w' := by
 unfold SD at hE
 have HE := h_ hE
 have HPO := h_ hpo
 have HB := h_ hb
 obtain ⟨a0, c0, rfl⟩ := RdK_slice hr
 unfold ndV at HE ⊢
 rw [hk] at HE ⊢
 clear hr hpo hE hb
 generalize n.text = ntx at *
 go_enter Tryz.func21, Tryz.ntmps21
 go_wp2_with (go_at_call 36; refine (u_ HE _ _ ((u_ HPO).alloc _) ((u_ HB).alloc (u_ HB).size _)).mono ?_; rintro e w1 ⟨rfl, ov1, p1, r1⟩)
 exact e21 rfl ⟨rfl, ov1, p1, (Pr.ofAlloc pb ov w _).trans r1⟩
theorem spD44 (n : Nd) (v : Value) (W0 w : World) (pb : Nat) (T S : List Tok) (ov : Value) (hr : RdK W0 n.kids v) (hb : Below W0.heap.size W0 w) (hp : W0.heap.size ≤ pb) (hpo : Po pb T ov w) (hk : n.kind = 44)
   (hE : SD n v W0 pb T S) :
   Calls Tryz.prog 21 #[.pointer (some ⟨pb, 0, none⟩), ndV n v] w fun e w' => e = .returned (.tuple #[]) ∧ ∃ ov', Po pb S ov' w' ∧ Pr pb ov ov' w w' := by
 unfold SD at hE
 have HE := h_ hE
 have HPO := h_ hpo
 have HB := h_ hb
 obtain ⟨a0, c0, rfl⟩ := RdK_slice hr
 unfold ndV at HE ⊢
 rw [hk] at HE ⊢
 clear hr hpo hE hb
 generalize n.text = ntx at *
 go_enter Tryz.func21, Tryz.ntmps21
 go_wp2_with (go_at_call 36; refine (u_ HE _ _ ((u_ HPO).alloc _) ((u_ HB).alloc (u_ HB).size _)).mono ?_; rintro e w1 ⟨rfl, ov1, p1, r1⟩)
 exact e21 rfl ⟨rfl, ov1, p1, (Pr.ofAlloc pb ov w _).trans r1⟩
theorem spD45 (n : Nd) (v : Value) (W0 w : World) (pb : Nat) (T S : List Tok) (ov : Value) (hr : RdK W0 n.kids v) (hb : Below W0.heap.size W0 w) (hp : W0.heap.size ≤ pb) (hpo : Po pb T ov w) (hk : n.kind = 45)
   (hE : SD n v W0 pb T S) :
   Calls Tryz.prog 21 #[.pointer (some ⟨pb, 0, none⟩), ndV n v] w fun e w' => e = .returned (.tuple #[]) ∧ ∃ ov', Po pb S ov' w' ∧ Pr pb ov ov' w w' := by
 unfold SD at hE
 have HE := h_ hE
 have HPO := h_ hpo
 have HB := h_ hb
 obtain ⟨a0, c0, rfl⟩ := RdK_slice hr
 unfold ndV at HE ⊢
 rw [hk] at HE ⊢
 clear hr hpo hE hb
 generalize n.text = ntx at *
 go_enter Tryz.func21, Tryz.ntmps21
 go_wp2_with (go_at_call 36; refine (u_ HE _ _ ((u_ HPO).alloc _) ((u_ HB).alloc (u_ HB).size _)).mono ?_; rintro e w1 ⟨rfl, ov1, p1, r1⟩)
 exact e21 rfl ⟨rfl, ov1, p1, (Pr.ofAlloc pb ov w _).trans r1⟩
theorem spD46 (n : Nd) (v : Value) (W0 w : World) (pb : Nat) (T S : List Tok) (ov : Value) (hr : RdK W0 n.kids v) (hb : Below W0.heap.size W0 w) (hp : W0.heap.size ≤ pb) (hpo : Po pb T ov w) (hk : n.kind = 46)
   (hE : SD n v W0 pb T S) :
   Calls Tryz.prog 21 #[.pointer (some ⟨pb, 0, none⟩), ndV n v] w fun e w' => e = .returned (.tuple #[]) ∧ ∃ ov', Po pb S ov' w' ∧ Pr pb ov ov' w w' := by
 unfold SD at hE
 have HE := h_ hE
 have HPO := h_ hpo
 have HB := h_ hb
 obtain ⟨a0, c0, rfl⟩ := RdK_slice hr
 unfold ndV at HE ⊢
 rw [hk] at HE ⊢
 clear hr hpo hE hb
 generalize n.text = ntx at *
 go_enter Tryz.func21, Tryz.ntmps21
 go_wp2_with (go_at_call 36; refine (u_ HE _ _ ((u_ HPO).alloc _) ((u_ HB).alloc (u_ HB).size _)).mono ?_; rintro e w1 ⟨rfl, ov1, p1, r1⟩)
 exact e21 rfl ⟨rfl, ov1, p1, (Pr.ofAlloc pb ov w _).trans r1⟩
theorem spD47 (n : Nd) (v : Value) (W0 w : World) (pb : Nat) (T S : List Tok) (ov : Value) (hr : RdK W0 n.kids v) (hb : Below W0.heap.size W0 w) (hp : W0.heap.size ≤ pb) (hpo : Po pb T ov w) (hk : n.kind = 47)
   (hE : SD n v W0 pb T S) :
   Calls Tryz.prog 21 #[.pointer (some ⟨pb, 0, none⟩), ndV n v] w fun e w' => e = .returned (.tuple #[]) ∧ ∃ ov', Po pb S ov' w' ∧ Pr pb ov ov' w w' := by
 unfold SD at hE
 have HE := h_ hE
 have HPO := h_ hpo
 have HB := h_ hb
 obtain ⟨a0, c0, rfl⟩ := RdK_slice hr
 unfold ndV at HE ⊢
 rw [hk] at HE ⊢
 clear hr hpo hE hb
 generalize n.text = ntx at *
 go_enter Tryz.func21, Tryz.ntmps21
 go_wp2_with (go_at_call 36; refine (u_ HE _ _ ((u_ HPO).alloc _) ((u_ HB).alloc (u_ HB).size _)).mono ?_; rintro e w1 ⟨rfl, ov1, p1, r1⟩)
 exact e21 rfl ⟨rfl, ov1, p1, (Pr.ofAlloc pb ov w _).trans r1⟩
end Go.Proofs.YtddlokkejglckaaGreatDoor
