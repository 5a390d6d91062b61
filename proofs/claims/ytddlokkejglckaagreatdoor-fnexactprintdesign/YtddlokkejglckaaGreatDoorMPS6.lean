/- Parts of the proof: PS6 to PS7. -/
import Derived.Test.YtddlokkejglckaaGreatDoorMPD1
namespace Go.Proofs.YtddlokkejglckaaGreatDoor
open Go.RowKit Nt
set_option maxHeartbeats 800000
set_option linter.unusedVariables false
set_option maxRecDepth 100000
theorem sp20 (n : Nd) (x : Nd) (y : Nd) (z : Nd) (hk : n.kind = 20) (hks : n.kids = [x, y, z]) (ix : SpC x) (qx : fmP x) (iy : SpC y) (qy : fmP y) (iz : SpC z) (qz : fmP z) : ST 21 n (fun T => T ++ [[102, 111, 114]] ++ [L n.text] ++ [[61]] ++ tk x ++ [[46, 46]] ++ tk y ++ tk z) := by
 intro v W0 w pb T ov ht hr hb hp hpo hz
 dsimp only at hz ⊢
 have hl := len_okP hr
 rcases RdK_cases hr with ⟨h0, _⟩ | ⟨b, o, c, vs, hv, hn, hcs⟩
 · rw [hks] at h0; cases h0
 subst hv
 have hcap := RdK_cap hr
 obtain ⟨kx1, kx2, kx3, tx, rx⟩ := hcs 0 x (by rw [hks]; rfl)
 obtain ⟨ax, cx, hvx⟩ := RdK_slice rx
 rw [hvx] at kx3 rx
 obtain ⟨ky1, ky2, ky3, ty, ry⟩ := hcs 1 y (by rw [hks]; rfl)
 obtain ⟨ay, cy, hvy⟩ := RdK_slice ry
 rw [hvy] at ky3 ry
 obtain ⟨kz1, kz2, kz3, tz, rz⟩ := hcs 2 z (by rw [hks]; rfl)
 obtain ⟨az, cz, hvz⟩ := RdK_slice rz
 rw [hvz] at kz3 rz
 simp only [Nat.zero_mul, Nat.add_zero, Nat.one_mul] at kx1 kx2 kx3 ky1 ky2 ky3 kz1 kz2 kz3
 rw [hks] at hcap hr
 have hlen : n.kids.length = 3 := by rw [hks]; rfl
 rw [hlen]
 have ST := h_ (Stt.start (n := n) (nv := .slice (some ⟨b, o, none⟩) 3 c) hb hpo 30)
 have C1 : Hid (SC W0 pb n (.slice (some ⟨b, o, none⟩) 3 c) w ov 20 [.string ⟨#[102, 111, 114]⟩] (T) (T ++ [[102, 111, 114]])) := h_ (stt_put hp ⟨#[102, 111, 114]⟩ [102, 111, 114] rfl (by simp only [sizeT_app] at hz ⊢; omega))
 have C2 : Hid (SC W0 pb n (.slice (some ⟨b, o, none⟩) 3 c) w ov 20 [.string n.text] (T ++ [[102, 111, 114]]) (T ++ [[102, 111, 114]] ++ [L n.text])) := h_ (stt_put hp n.text (L n.text) rfl (by simp only [sizeT_app] at hz ⊢; omega))
 have C3 : Hid (SC W0 pb n (.slice (some ⟨b, o, none⟩) 3 c) w ov 20 [.string ⟨#[61]⟩] (T ++ [[102, 111, 114]] ++ [L n.text]) (T ++ [[102, 111, 114]] ++ [L n.text] ++ [[61]])) := h_ (stt_put hp ⟨#[61]⟩ [61] rfl (by simp only [sizeT_app] at hz ⊢; omega))
 have C4 : Hid (SC W0 pb n (.slice (some ⟨b, o, none⟩) 3 c) w ov 21 [.agg #[.int .i64 x.kind, .string x.text, .slice ax x.kids.length cx]] (T ++ [[102, 111, 114]] ++ [L n.text] ++ [[61]]) (T ++ [[102, 111, 114]] ++ [L n.text] ++ [[61]] ++ tk x)) := h_ (stt_node hp ix qx tx rx (by simp only [sizeT_app] at hz ⊢; omega))
 have C5 : Hid (SC W0 pb n (.slice (some ⟨b, o, none⟩) 3 c) w ov 20 [.string ⟨#[46, 46]⟩] (T ++ [[102, 111, 114]] ++ [L n.text] ++ [[61]] ++ tk x) (T ++ [[102, 111, 114]] ++ [L n.text] ++ [[61]] ++ tk x ++ [[46, 46]])) := h_ (stt_put hp ⟨#[46, 46]⟩ [46, 46] rfl (by simp only [sizeT_app] at hz ⊢; omega))
 have C6 : Hid (SC W0 pb n (.slice (some ⟨b, o, none⟩) 3 c) w ov 21 [.agg #[.int .i64 y.kind, .string y.text, .slice ay y.kids.length cy]] (T ++ [[102, 111, 114]] ++ [L n.text] ++ [[61]] ++ tk x ++ [[46, 46]]) (T ++ [[102, 111, 114]] ++ [L n.text] ++ [[61]] ++ tk x ++ [[46, 46]] ++ tk y)) := h_ (stt_node hp iy qy ty ry (by simp only [sizeT_app] at hz ⊢; omega))
 have C7 : Hid (SC W0 pb n (.slice (some ⟨b, o, none⟩) 3 c) w ov 21 [.agg #[.int .i64 z.kind, .string z.text, .slice az z.kids.length cz]] (T ++ [[102, 111, 114]] ++ [L n.text] ++ [[61]] ++ tk x ++ [[46, 46]] ++ tk y) (T ++ [[102, 111, 114]] ++ [L n.text] ++ [[61]] ++ tk x ++ [[46, 46]] ++ tk y ++ tk z)) := h_ (stt_node hp iz qz tz rz hz)
 have HKx1 := h_ kx1
 have HKx2 := h_ kx2
 have HKx3 := h_ kx3
 have HKy1 := h_ ky1
 have HKy2 := h_ ky2
 have HKy3 := h_ ky3
 have HKz1 := h_ kz1
 have HKz2 := h_ kz2
 have HKz3 := h_ kz3
 unfold ndV
 have HK := h_ hk
 have hs0 := u_ ST
 have y0_0 := hs0.c0
 have y1_0 := hs0.c1
 have y2_0 := hs0.c2
 have mx1_0 := c_ hs0.b kx1
 have mx2_0 := c_ hs0.b kx2
 have mx3_0 := c_ hs0.b kx3
 have my1_0 := c_ hs0.b ky1
 have my2_0 := c_ hs0.b ky2
 have my3_0 := c_ hs0.b ky3
 have mz1_0 := c_ hs0.b kz1
 have mz2_0 := c_ hs0.b kz2
 have mz3_0 := c_ hs0.b kz3
 clear ST ht hb hpo hz hr hcs rx kx1 kx2 kx3 ix qx ry ky1 ky2 ky3 iy qy rz kz1 kz2 kz3 iz qz
 rw [hk] at hs0 y0_0 y1_0 y2_0 mx1_0 mx2_0 mx3_0 my1_0 my2_0 my3_0 mz1_0 mz2_0 mz3_0 ⊢
 generalize hnt : n.text = ntx at *
 generalize x.kind = xk at *
 generalize x.text = xt at *
 generalize y.kind = yk at *
 generalize y.text = yt at *
 generalize z.kind = zk at *
 generalize z.text = zt at *
 go_enter Tryz.func21, Tryz.ntmps21
 go_wp2_with (first
   | (go_at_call_of 21 (Value.agg #[Value.int IntKind.i64 zk, Value.string zt, Value.slice az z.kids.length cz]); refine (u_ C7 _ _ hs6).mono ?_; rintro e w7 ⟨rfl, ov7, hs7⟩)
   | (go_at_call_of 21 (Value.agg #[Value.int IntKind.i64 yk, Value.string yt, Value.slice ay y.kids.length cy]); refine (u_ C6 _ _ hs5).mono ?_; rintro e w6 ⟨rfl, ov6, hs6⟩; have y2_6 := hs6.c2; have mz1_6 := c_ hs6.b (u_ HKz1); have mz2_6 := c_ hs6.b (u_ HKz2); have mz3_6 := c_ hs6.b (u_ HKz3))
   | (go_at_call_of 20 (Value.string ⟨#[46, 46]⟩); refine (u_ C5 _ _ hs4).mono ?_; rintro e w5 ⟨rfl, ov5, hs5⟩; have y2_5 := hs5.c2; have my1_5 := c_ hs5.b (u_ HKy1); have my2_5 := c_ hs5.b (u_ HKy2); have my3_5 := c_ hs5.b (u_ HKy3); have mz1_5 := c_ hs5.b (u_ HKz1); have mz2_5 := c_ hs5.b (u_ HKz2); have mz3_5 := c_ hs5.b (u_ HKz3))
   | (go_at_call_of 21 (Value.agg #[Value.int IntKind.i64 xk, Value.string xt, Value.slice ax x.kids.length cx]); refine (u_ C4 _ _ hs3).mono ?_; rintro e w4 ⟨rfl, ov4, hs4⟩; have y2_4 := hs4.c2; have my1_4 := c_ hs4.b (u_ HKy1); have my2_4 := c_ hs4.b (u_ HKy2); have my3_4 := c_ hs4.b (u_ HKy3); have mz1_4 := c_ hs4.b (u_ HKz1); have mz2_4 := c_ hs4.b (u_ HKz2); have mz3_4 := c_ hs4.b (u_ HKz3))
   | (go_at_call_of 20 (Value.string ⟨#[61]⟩); refine (u_ C3 _ _ hs2).mono ?_; rintro e w3 ⟨rfl, ov3, hs3⟩; have y2_3 := hs3.c2; have mx1_3 := c_ hs3.b (u_ HKx1); have mx2_3 := c_ hs3.b (u_ HKx2); have mx3_3 := c_ hs3.b (u_ HKx3); have my1_3 := c_ hs3.b (u_ HKy1); have my2_3 := c_ hs3.b (u_ HKy2); have my3_3 := c_ hs3.b (u_ HKy3); have mz1_3 := c_ hs3.b (u_ HKz1); have mz2_3 := c_ hs3.b (u_ HKz2); have mz3_3 := c_ hs3.b (u_ HKz3))
   | (go_at_call_of 20 (Value.string ntx); refine (u_ C2 _ _ hs1).mono ?_; rintro e w2 ⟨rfl, ov2, hs2⟩; have y2_2 := hs2.c2; have mx1_2 := c_ hs2.b (u_ HKx1); have mx2_2 := c_ hs2.b (u_ HKx2); have mx3_2 := c_ hs2.b (u_ HKx3); have my1_2 := c_ hs2.b (u_ HKy1); have my2_2 := c_ hs2.b (u_ HKy2); have my3_2 := c_ hs2.b (u_ HKy3); have mz1_2 := c_ hs2.b (u_ HKz1); have mz2_2 := c_ hs2.b (u_ HKz2); have mz3_2 := c_ hs2.b (u_ HKz3))
   | (go_at_call_of 20 (Value.string ⟨#[102, 111, 114]⟩); refine (u_ C1 _ _ hs0).mono ?_; rintro e w1 ⟨rfl, ov1, hs1⟩; have y1_1 := hs1.c1; have y2_1 := hs1.c2; rw [hnt] at y1_1; have mx1_1 := c_ hs1.b (u_ HKx1); have mx2_1 := c_ hs1.b (u_ HKx2); have mx3_1 := c_ hs1.b (u_ HKx3); have my1_1 := c_ hs1.b (u_ HKy1); have my2_1 := c_ hs1.b (u_ HKy2); have my3_1 := c_ hs1.b (u_ HKy3); have mz1_1 := c_ hs1.b (u_ HKz1); have mz2_1 := c_ hs1.b (u_ HKz2); have mz3_1 := c_ hs1.b (u_ HKz3)))
 exact e21 rfl ⟨rfl, ov7, hs7.po, hs7.pr⟩
theorem sp33 (n : Nd) (x : Nd) (y : Nd) (z : Nd) (hk : n.kind = 33) (hks : n.kids = [x, y, z]) (ix : SpC x) (qx : fmP x) (iy : SpC y) (qy : fmP y) (iz : SpC z) (qz : fmP z) : ST 21 n (fun T => T ++ [[102, 111, 114]] ++ [L n.text] ++ [[61]] ++ tk x ++ [[46, 46]] ++ tk y ++ tk z) := by
 intro v W0 w pb T ov ht hr hb hp hpo hz
 dsimp only at hz ⊢
 have hl := len_okP hr
 rcases RdK_cases hr with ⟨h0, _⟩ | ⟨b, o, c, vs, hv, hn, hcs⟩
 · rw [hks] at h0; cases h0
 subst hv
 have hcap := RdK_cap hr
 obtain ⟨kx1, kx2, kx3, tx, rx⟩ := hcs 0 x (by rw [hks]; rfl)
 obtain ⟨ax, cx, hvx⟩ := RdK_slice rx
 rw [hvx] at kx3 rx
 obtain ⟨ky1, ky2, ky3, ty, ry⟩ := hcs 1 y (by rw [hks]; rfl)
 obtain ⟨ay, cy, hvy⟩ := RdK_slice ry
 rw [hvy] at ky3 ry
 obtain ⟨kz1, kz2, kz3, tz, rz⟩ := hcs 2 z (by rw [hks]; rfl)
 obtain ⟨az, cz, hvz⟩ := RdK_slice rz
 rw [hvz] at kz3 rz
 simp only [Nat.zero_mul, Nat.add_zero, Nat.one_mul] at kx1 kx2 kx3 ky1 ky2 ky3 kz1 kz2 kz3
 rw [hks] at hcap hr
 have hlen : n.kids.length = 3 := by rw [hks]; rfl
 rw [hlen]
 have ST := h_ (Stt.start (n := n) (nv := .slice (some ⟨b, o, none⟩) 3 c) hb hpo 30)
 have C1 : Hid (SC W0 pb n (.slice (some ⟨b, o, none⟩) 3 c) w ov 20 [.string ⟨#[102, 111, 114]⟩] (T) (T ++ [[102, 111, 114]])) := h_ (stt_put hp ⟨#[102, 111, 114]⟩ [102, 111, 114] rfl (by simp only [sizeT_app] at hz ⊢; omega))
 have C2 : Hid (SC W0 pb n (.slice (some ⟨b, o, none⟩) 3 c) w ov 20 [.string n.text] (T ++ [[102, 111, 114]]) (T ++ [[102, 111, 114]] ++ [L n.text])) := h_ (stt_put hp n.text (L n.text) rfl (by simp only [sizeT_app] at hz ⊢; omega))
 have C3 : Hid (SC W0 pb n (.slice (some ⟨b, o, none⟩) 3 c) w ov 20 [.string ⟨#[61]⟩] (T ++ [[102, 111, 114]] ++ [L n.text]) (T ++ [[102, 111, 114]] ++ [L n.text] ++ [[61]])) := h_ (stt_put hp ⟨#[61]⟩ [61] rfl (by simp only [sizeT_app] at hz ⊢; omega))
 have C4 : Hid (SC W0 pb n (.slice (some ⟨b, o, none⟩) 3 c) w ov 21 [.agg #[.int .i64 x.kind, .string x.text, .slice ax x.kids.length cx]] (T ++ [[102, 111, 114]] ++ [L n.text] ++ [[61]]) (T ++ [[102, 111, 114]] ++ [L n.text] ++ [[61]] ++ tk x)) := h_ (stt_node hp ix qx tx rx (by simp only [sizeT_app] at hz ⊢; omega))
 have C5 : Hid (SC W0 pb n (.slice (some ⟨b, o, none⟩) 3 c) w ov 20 [.string ⟨#[46, 46]⟩] (T ++ [[102, 111, 114]] ++ [L n.text] ++ [[61]] ++ tk x) (T ++ [[102, 111, 114]] ++ [L n.text] ++ [[61]] ++ tk x ++ [[46, 46]])) := h_ (stt_put hp ⟨#[46, 46]⟩ [46, 46] rfl (by simp only [sizeT_app] at hz ⊢; omega))
 have C6 : Hid (SC W0 pb n (.slice (some ⟨b, o, none⟩) 3 c) w ov 21 [.agg #[.int .i64 y.kind, .string y.text, .slice ay y.kids.length cy]] (T ++ [[102, 111, 114]] ++ [L n.text] ++ [[61]] ++ tk x ++ [[46, 46]]) (T ++ [[102, 111, 114]] ++ [L n.text] ++ [[61]] ++ tk x ++ [[46, 46]] ++ tk y)) := h_ (stt_node hp iy qy ty ry (by simp only [sizeT_app] at hz ⊢; omega))
 have C7 : Hid (SC W0 pb n (.slice (some ⟨b, o, none⟩) 3 c) w ov 21 [.agg #[.int .i64 z.kind, .string z.text, .slice az z.kids.length cz]] (T ++ [[102, 111, 114]] ++ [L n.text] ++ [[61]] ++ tk x ++ [[46, 46]] ++ tk y) (T ++ [[102, 111, 114]] ++ [L n.text] ++ [[61]] ++ tk x ++ [[46, 46]] ++ tk y ++ tk z)) := h_ (stt_node hp iz qz tz rz hz)
 have HKx1 := h_ kx1
 have HKx2 := h_ kx2
 have HKx3 := h_ kx3
 have HKy1 := h_ ky1
 have HKy2 := h_ ky2
 have HKy3 := h_ ky3
 have HKz1 := h_ kz1
 have HKz2 := h_ kz2
 have HKz3 := h_ kz3
 unfold ndV
 have HK := h_ hk
 have hs0 := u_ ST
 have y0_0 := hs0.c0
 have y1_0 := hs0.c1
 have y2_0 := hs0.c2
 have mx1_0 := c_ hs0.b kx1
 have mx2_0 := c_ hs0.b kx2
 have mx3_0 := c_ hs0.b kx3
 have my1_0 := c_ hs0.b ky1
 have my2_0 := c_ hs0.b ky2
 have my3_0 := c_ hs0.b ky3
 have mz1_0 := c_ hs0.b kz1
 have mz2_0 := c_ hs0.b kz2
 have mz3_0 := c_ hs0.b kz3
 clear ST ht hb hpo hz hr hcs rx kx1 kx2 kx3 ix qx ry ky1 ky2 ky3 iy qy rz kz1 kz2 kz3 iz qz
 rw [hk] at hs0 y0_0 y1_0 y2_0 mx1_0 mx2_0 mx3_0 my1_0 my2_0 my3_0 mz1_0 mz2_0 mz3_0 ⊢
 generalize hnt : n.text = ntx at *
 generalize x.kind = xk at *
 generalize x.text = xt at *
 generalize y.kind = yk at *
 generalize y.text = yt at *
 generalize z.kind = zk at *
 generalize z.text = zt at *
 go_enter Tryz.func21, Tryz.ntmps21
 go_wp2_with (first
   | (go_at_call_of 21 (Value.agg #[Value.int IntKind.i64 zk, Value.string zt, Value.slice az z.kids.length cz]); refine (u_ C7 _ _ hs6).mono ?_; rintro e w7 ⟨rfl, ov7, hs7⟩)
   | (go_at_call_of 21 (Value.agg #[Value.int IntKind.i64 yk, Value.string yt, Value.slice ay y.kids.length cy]); refine (u_ C6 _ _ hs5).mono ?_; rintro e w6 ⟨rfl, ov6, hs6⟩; have y2_6 := hs6.c2; have mz1_6 := c_ hs6.b (u_ HKz1); have mz2_6 := c_ hs6.b (u_ HKz2); have mz3_6 := c_ hs6.b (u_ HKz3))
   | (go_at_call_of 20 (Value.string ⟨#[46, 46]⟩); refine (u_ C5 _ _ hs4).mono ?_; rintro e w5 ⟨rfl, ov5, hs5⟩; have y2_5 := hs5.c2; have my1_5 := c_ hs5.b (u_ HKy1); have my2_5 := c_ hs5.b (u_ HKy2); have my3_5 := c_ hs5.b (u_ HKy3); have mz1_5 := c_ hs5.b (u_ HKz1); have mz2_5 := c_ hs5.b (u_ HKz2); have mz3_5 := c_ hs5.b (u_ HKz3))
   | (go_at_call_of 21 (Value.agg #[Value.int IntKind.i64 xk, Value.string xt, Value.slice ax x.kids.length cx]); refine (u_ C4 _ _ hs3).mono ?_; rintro e w4 ⟨rfl, ov4, hs4⟩; have y2_4 := hs4.c2; have my1_4 := c_ hs4.b (u_ HKy1); have my2_4 := c_ hs4.b (u_ HKy2); have my3_4 := c_ hs4.b (u_ HKy3); have mz1_4 := c_ hs4.b (u_ HKz1); have mz2_4 := c_ hs4.b (u_ HKz2); have mz3_4 := c_ hs4.b (u_ HKz3))
   | (go_at_call_of 20 (Value.string ⟨#[61]⟩); refine (u_ C3 _ _ hs2).mono ?_; rintro e w3 ⟨rfl, ov3, hs3⟩; have y2_3 := hs3.c2; have mx1_3 := c_ hs3.b (u_ HKx1); have mx2_3 := c_ hs3.b (u_ HKx2); have mx3_3 := c_ hs3.b (u_ HKx3); have my1_3 := c_ hs3.b (u_ HKy1); have my2_3 := c_ hs3.b (u_ HKy2); have my3_3 := c_ hs3.b (u_ HKy3); have mz1_3 := c_ hs3.b (u_ HKz1); have mz2_3 := c_ hs3.b (u_ HKz2); have mz3_3 := c_ hs3.b (u_ HKz3))
   | (go_at_call_of 20 (Value.string ntx); refine (u_ C2 _ _ hs1).mono ?_; rintro e w2 ⟨rfl, ov2, hs2⟩; have y2_2 := hs2.c2; have mx1_2 := c_ hs2.b (u_ HKx1); have mx2_2 := c_ hs2.b (u_ HKx2); have mx3_2 := c_ hs2.b (u_ HKx3); have my1_2 := c_ hs2.b (u_ HKy1); have my2_2 := c_ hs2.b (u_ HKy2); have my3_2 := c_ hs2.b (u_ HKy3); have mz1_2 := c_ hs2.b (u_ HKz1); have mz2_2 := c_ hs2.b (u_ HKz2); have mz3_2 := c_ hs2.b (u_ HKz3))
   | (go_at_call_of 20 (Value.string ⟨#[102, 111, 114]⟩); refine (u_ C1 _ _ hs0).mono ?_; rintro e w1 ⟨rfl, ov1, hs1⟩; have y1_1 := hs1.c1; have y2_1 := hs1.c2; rw [hnt] at y1_1; have mx1_1 := c_ hs1.b (u_ HKx1); have mx2_1 := c_ hs1.b (u_ HKx2); have mx3_1 := c_ hs1.b (u_ HKx3); have my1_1 := c_ hs1.b (u_ HKy1); have my2_1 := c_ hs1.b (u_ HKy2); have my3_1 := c_ hs1.b (u_ HKy3); have mz1_1 := c_ hs1.b (u_ HKz1); have mz2_1 := c_ hs1.b (u_ HKz2); have mz3_1 := c_ hs1.b (u_ HKz3)))
 exact e21 rfl ⟨rfl, ov7, hs7.po, hs7.pr⟩
theorem sp21a (n : Nd) (x : Nd) (y : Nd) (hk : n.kind = 21) (hks : n.kids = [x, y]) (ix : SpC x) (qx : fmP x) (iy : SpC y) (qy : fmP y) : ST 21 n (fun T => T ++ [[119, 104, 101, 110]] ++ tk x ++ tk y) := by
 intro v W0 w pb T ov ht hr hb hp hpo hz
 dsimp only at hz ⊢
 have hl := len_okP hr
 rcases RdK_cases hr with ⟨h0, _⟩ | ⟨b, o, c, vs, hv, hn, hcs⟩
 · rw [hks] at h0; cases h0
 subst hv
 have hcap := RdK_cap hr
 obtain ⟨kx1, kx2, kx3, tx, rx⟩ := hcs 0 x (by rw [hks]; rfl)
 obtain ⟨ax, cx, hvx⟩ := RdK_slice rx
 rw [hvx] at kx3 rx
 obtain ⟨ky1, ky2, ky3, ty, ry⟩ := hcs 1 y (by rw [hks]; rfl)
 obtain ⟨ay, cy, hvy⟩ := RdK_slice ry
 rw [hvy] at ky3 ry
 simp only [Nat.zero_mul, Nat.add_zero, Nat.one_mul] at kx1 kx2 kx3 ky1 ky2 ky3
 rw [hks] at hcap hr
 have hlen : n.kids.length = 2 := by rw [hks]; rfl
 rw [hlen]
 have ST := h_ (Stt.start (n := n) (nv := .slice (some ⟨b, o, none⟩) 2 c) hb hpo 30)
 have C1 : Hid (SC W0 pb n (.slice (some ⟨b, o, none⟩) 2 c) w ov 20 [.string ⟨#[119, 104, 101, 110]⟩] (T) (T ++ [[119, 104, 101, 110]])) := h_ (stt_put hp ⟨#[119, 104, 101, 110]⟩ [119, 104, 101, 110] rfl (by simp only [sizeT_app] at hz ⊢; omega))
 have C2 : Hid (SC W0 pb n (.slice (some ⟨b, o, none⟩) 2 c) w ov 21 [.agg #[.int .i64 x.kind, .string x.text, .slice ax x.kids.length cx]] (T ++ [[119, 104, 101, 110]]) (T ++ [[119, 104, 101, 110]] ++ tk x)) := h_ (stt_node hp ix qx tx rx (by simp only [sizeT_app] at hz ⊢; omega))
 have C3 : Hid (SC W0 pb n (.slice (some ⟨b, o, none⟩) 2 c) w ov 21 [.agg #[.int .i64 y.kind, .string y.text, .slice ay y.kids.length cy]] (T ++ [[119, 104, 101, 110]] ++ tk x) (T ++ [[119, 104, 101, 110]] ++ tk x ++ tk y)) := h_ (stt_node hp iy qy ty ry hz)
 have HKx1 := h_ kx1
 have HKx2 := h_ kx2
 have HKx3 := h_ kx3
 have HKy1 := h_ ky1
 have HKy2 := h_ ky2
 have HKy3 := h_ ky3
 unfold ndV
 have HK := h_ hk
 have hs0 := u_ ST
 have y0_0 := hs0.c0
 have y1_0 := hs0.c1
 have y2_0 := hs0.c2
 have mx1_0 := c_ hs0.b kx1
 have mx2_0 := c_ hs0.b kx2
 have mx3_0 := c_ hs0.b kx3
 have my1_0 := c_ hs0.b ky1
 have my2_0 := c_ hs0.b ky2
 have my3_0 := c_ hs0.b ky3
 clear ST ht hb hpo hz hr hcs rx kx1 kx2 kx3 ix qx ry ky1 ky2 ky3 iy qy
 rw [hk] at hs0 y0_0 y1_0 y2_0 mx1_0 mx2_0 mx3_0 my1_0 my2_0 my3_0 ⊢
 generalize hnt : n.text = ntx at *
 generalize x.kind = xk at *
 generalize x.text = xt at *
 generalize y.kind = yk at *
 generalize y.text = yt at *
 go_enter Tryz.func21, Tryz.ntmps21
 go_wp2_with (first
   | (go_at_call_of 21 (Value.agg #[Value.int IntKind.i64 yk, Value.string yt, Value.slice ay y.kids.length cy]); refine (u_ C3 _ _ hs2).mono ?_; rintro e w3 ⟨rfl, ov3, hs3⟩)
   | (go_at_call_of 21 (Value.agg #[Value.int IntKind.i64 xk, Value.string xt, Value.slice ax x.kids.length cx]); refine (u_ C2 _ _ hs1).mono ?_; rintro e w2 ⟨rfl, ov2, hs2⟩; have y2_2 := hs2.c2; have my1_2 := c_ hs2.b (u_ HKy1); have my2_2 := c_ hs2.b (u_ HKy2); have my3_2 := c_ hs2.b (u_ HKy3))
   | (go_at_call_of 20 (Value.string ⟨#[119, 104, 101, 110]⟩); refine (u_ C1 _ _ hs0).mono ?_; rintro e w1 ⟨rfl, ov1, hs1⟩; have y2_1 := hs1.c2; have mx1_1 := c_ hs1.b (u_ HKx1); have mx2_1 := c_ hs1.b (u_ HKx2); have mx3_1 := c_ hs1.b (u_ HKx3); have my1_1 := c_ hs1.b (u_ HKy1); have my2_1 := c_ hs1.b (u_ HKy2); have my3_1 := c_ hs1.b (u_ HKy3)))
 exact e21 rfl ⟨rfl, ov3, hs3.po, hs3.pr⟩
theorem sp21b (n : Nd) (x : Nd) (y : Nd) (z : Nd) (hk : n.kind = 21) (hks : n.kids = [x, y, z]) (ix : SpC x) (qx : fmP x) (iy : SpC y) (qy : fmP y) (iz : SpC z) (qz : fmP z) : ST 21 n (fun T => T ++ [[119, 104, 101, 110]] ++ tk x ++ tk y ++ [[101, 108, 115, 101]] ++ tk z) := by
 intro v W0 w pb T ov ht hr hb hp hpo hz
 dsimp only at hz ⊢
 have hl := len_okP hr
 rcases RdK_cases hr with ⟨h0, _⟩ | ⟨b, o, c, vs, hv, hn, hcs⟩
 · rw [hks] at h0; cases h0
 subst hv
 have hcap := RdK_cap hr
 obtain ⟨kx1, kx2, kx3, tx, rx⟩ := hcs 0 x (by rw [hks]; rfl)
 obtain ⟨ax, cx, hvx⟩ := RdK_slice rx
 rw [hvx] at kx3 rx
 obtain ⟨ky1, ky2, ky3, ty, ry⟩ := hcs 1 y (by rw [hks]; rfl)
 obtain ⟨ay, cy, hvy⟩ := RdK_slice ry
 rw [hvy] at ky3 ry
 obtain ⟨kz1, kz2, kz3, tz, rz⟩ := hcs 2 z (by rw [hks]; rfl)
 obtain ⟨az, cz, hvz⟩ := RdK_slice rz
 rw [hvz] at kz3 rz
 simp only [Nat.zero_mul, Nat.add_zero, Nat.one_mul] at kx1 kx2 kx3 ky1 ky2 ky3 kz1 kz2 kz3
 rw [hks] at hcap hr
 have hlen : n.kids.length = 3 := by rw [hks]; rfl
 rw [hlen]
 have ST := h_ (Stt.start (n := n) (nv := .slice (some ⟨b, o, none⟩) 3 c) hb hpo 30)
 have C1 : Hid (SC W0 pb n (.slice (some ⟨b, o, none⟩) 3 c) w ov 20 [.string ⟨#[119, 104, 101, 110]⟩] (T) (T ++ [[119, 104, 101, 110]])) := h_ (stt_put hp ⟨#[119, 104, 101, 110]⟩ [119, 104, 101, 110] rfl (by simp only [sizeT_app] at hz ⊢; omega))
 have C2 : Hid (SC W0 pb n (.slice (some ⟨b, o, none⟩) 3 c) w ov 21 [.agg #[.int .i64 x.kind, .string x.text, .slice ax x.kids.length cx]] (T ++ [[119, 104, 101, 110]]) (T ++ [[119, 104, 101, 110]] ++ tk x)) := h_ (stt_node hp ix qx tx rx (by simp only [sizeT_app] at hz ⊢; omega))
 have C3 : Hid (SC W0 pb n (.slice (some ⟨b, o, none⟩) 3 c) w ov 21 [.agg #[.int .i64 y.kind, .string y.text, .slice ay y.kids.length cy]] (T ++ [[119, 104, 101, 110]] ++ tk x) (T ++ [[119, 104, 101, 110]] ++ tk x ++ tk y)) := h_ (stt_node hp iy qy ty ry (by simp only [sizeT_app] at hz ⊢; omega))
 have C4 : Hid (SC W0 pb n (.slice (some ⟨b, o, none⟩) 3 c) w ov 20 [.string ⟨#[101, 108, 115, 101]⟩] (T ++ [[119, 104, 101, 110]] ++ tk x ++ tk y) (T ++ [[119, 104, 101, 110]] ++ tk x ++ tk y ++ [[101, 108, 115, 101]])) := h_ (stt_put hp ⟨#[101, 108, 115, 101]⟩ [101, 108, 115, 101] rfl (by simp only [sizeT_app] at hz ⊢; omega))
 have C5 : Hid (SC W0 pb n (.slice (some ⟨b, o, none⟩) 3 c) w ov 21 [.agg #[.int .i64 z.kind, .string z.text, .slice az z.kids.length cz]] (T ++ [[119, 104, 101, 110]] ++ tk x ++ tk y ++ [[101, 108, 115, 101]]) (T ++ [[119, 104, 101, 110]] ++ tk x ++ tk y ++ [[101, 108, 115, 101]] ++ tk z)) := h_ (stt_node hp iz qz tz rz hz)
 have HKx1 := h_ kx1
 have HKx2 := h_ kx2
 have HKx3 := h_ kx3
 have HKy1 := h_ ky1
 have HKy2 := h_ ky2
 have HKy3 := h_ ky3
 have HKz1 := h_ kz1
 have HKz2 := h_ kz2
 have HKz3 := h_ kz3
 unfold ndV
 have HK := h_ hk
 have hs0 := u_ ST
 have y0_0 := hs0.c0
 have y1_0 := hs0.c1
 have y2_0 := hs0.c2
 have mx1_0 := c_ hs0.b kx1
 have mx2_0 := c_ hs0.b kx2
 have mx3_0 := c_ hs0.b kx3
 have my1_0 := c_ hs0.b ky1
 have my2_0 := c_ hs0.b ky2
 have my3_0 := c_ hs0.b ky3
 have mz1_0 := c_ hs0.b kz1
 have mz2_0 := c_ hs0.b kz2
 have mz3_0 := c_ hs0.b kz3
 clear ST ht hb hpo hz hr hcs rx kx1 kx2 kx3 ix qx ry ky1 ky2 ky3 iy qy rz kz1 kz2 kz3 iz qz
 rw [hk] at hs0 y0_0 y1_0 y2_0 mx1_0 mx2_0 mx3_0 my1_0 my2_0 my3_0 mz1_0 mz2_0 mz3_0 ⊢
 generalize hnt : n.text = ntx at *
 generalize x.kind = xk at *
 generalize x.text = xt at *
 generalize y.kind = yk at *
 generalize y.text = yt at *
 generalize z.kind = zk at *
 generalize z.text = zt at *
 go_enter Tryz.func21, Tryz.ntmps21
 go_wp2_with (first
   | (go_at_call_of 21 (Value.agg #[Value.int IntKind.i64 zk, Value.string zt, Value.slice az z.kids.length cz]); refine (u_ C5 _ _ hs4).mono ?_; rintro e w5 ⟨rfl, ov5, hs5⟩)
   | (go_at_call_of 20 (Value.string ⟨#[101, 108, 115, 101]⟩); refine (u_ C4 _ _ hs3).mono ?_; rintro e w4 ⟨rfl, ov4, hs4⟩; have y2_4 := hs4.c2; have mz1_4 := c_ hs4.b (u_ HKz1); have mz2_4 := c_ hs4.b (u_ HKz2); have mz3_4 := c_ hs4.b (u_ HKz3))
   | (go_at_call_of 21 (Value.agg #[Value.int IntKind.i64 yk, Value.string yt, Value.slice ay y.kids.length cy]); refine (u_ C3 _ _ hs2).mono ?_; rintro e w3 ⟨rfl, ov3, hs3⟩; have y2_3 := hs3.c2; have mz1_3 := c_ hs3.b (u_ HKz1); have mz2_3 := c_ hs3.b (u_ HKz2); have mz3_3 := c_ hs3.b (u_ HKz3))
   | (go_at_call_of 21 (Value.agg #[Value.int IntKind.i64 xk, Value.string xt, Value.slice ax x.kids.length cx]); refine (u_ C2 _ _ hs1).mono ?_; rintro e w2 ⟨rfl, ov2, hs2⟩; have y2_2 := hs2.c2; have my1_2 := c_ hs2.b (u_ HKy1); have my2_2 := c_ hs2.b (u_ HKy2); have my3_2 := c_ hs2.b (u_ HKy3); have mz1_2 := c_ hs2.b (u_ HKz1); have mz2_2 := c_ hs2.b (u_ HKz2); have mz3_2 := c_ hs2.b (u_ HKz3))
   | (go_at_call_of 20 (Value.string ⟨#[119, 104, 101, 110]⟩); refine (u_ C1 _ _ hs0).mono ?_; rintro e w1 ⟨rfl, ov1, hs1⟩; have y2_1 := hs1.c2; have mx1_1 := c_ hs1.b (u_ HKx1); have mx2_1 := c_ hs1.b (u_ HKx2); have mx3_1 := c_ hs1.b (u_ HKx3); have my1_1 := c_ hs1.b (u_ HKy1); have my2_1 := c_ hs1.b (u_ HKy2); have my3_1 := c_ hs1.b (u_ HKy3); have mz1_1 := c_ hs1.b (u_ HKz1); have mz2_1 := c_ hs1.b (u_ HKz2); have mz3_1 := c_ hs1.b (u_ HKz3)))
 exact e21 rfl ⟨rfl, ov5, hs5.po, hs5.pr⟩
theorem sp29a (n : Nd) (x : Nd) (y : Nd) (hk : n.kind = 29) (hks : n.kids = [x, y]) (ix : SpC x) (qx : fmP x) (iy : SpC y) (qy : fmP y) : ST 21 n (fun T => T ++ [[105, 102]] ++ tk x ++ tk y) := by
 intro v W0 w pb T ov ht hr hb hp hpo hz
 dsimp only at hz ⊢
 have hl := len_okP hr
 rcases RdK_cases hr with ⟨h0, _⟩ | ⟨b, o, c, vs, hv, hn, hcs⟩
 · rw [hks] at h0; cases h0
 subst hv
 have hcap := RdK_cap hr
 obtain ⟨kx1, kx2, kx3, tx, rx⟩ := hcs 0 x (by rw [hks]; rfl)
 obtain ⟨ax, cx, hvx⟩ := RdK_slice rx
 rw [hvx] at kx3 rx
 obtain ⟨ky1, ky2, ky3, ty, ry⟩ := hcs 1 y (by rw [hks]; rfl)
 obtain ⟨ay, cy, hvy⟩ := RdK_slice ry
 rw [hvy] at ky3 ry
 simp only [Nat.zero_mul, Nat.add_zero, Nat.one_mul] at kx1 kx2 kx3 ky1 ky2 ky3
 rw [hks] at hcap hr
 have hlen : n.kids.length = 2 := by rw [hks]; rfl
 rw [hlen]
 have ST := h_ (Stt.start (n := n) (nv := .slice (some ⟨b, o, none⟩) 2 c) hb hpo 30)
 have C1 : Hid (SC W0 pb n (.slice (some ⟨b, o, none⟩) 2 c) w ov 20 [.string ⟨#[105, 102]⟩] (T) (T ++ [[105, 102]])) := h_ (stt_put hp ⟨#[105, 102]⟩ [105, 102] rfl (by simp only [sizeT_app] at hz ⊢; omega))
 have C2 : Hid (SC W0 pb n (.slice (some ⟨b, o, none⟩) 2 c) w ov 21 [.agg #[.int .i64 x.kind, .string x.text, .slice ax x.kids.length cx]] (T ++ [[105, 102]]) (T ++ [[105, 102]] ++ tk x)) := h_ (stt_node hp ix qx tx rx (by simp only [sizeT_app] at hz ⊢; omega))
 have C3 : Hid (SC W0 pb n (.slice (some ⟨b, o, none⟩) 2 c) w ov 21 [.agg #[.int .i64 y.kind, .string y.text, .slice ay y.kids.length cy]] (T ++ [[105, 102]] ++ tk x) (T ++ [[105, 102]] ++ tk x ++ tk y)) := h_ (stt_node hp iy qy ty ry hz)
 have HKx1 := h_ kx1
 have HKx2 := h_ kx2
 have HKx3 := h_ kx3
 have HKy1 := h_ ky1
 have HKy2 := h_ ky2
 have HKy3 := h_ ky3
 unfold ndV
 have HK := h_ hk
 have hs0 := u_ ST
 have y0_0 := hs0.c0
 have y1_0 := hs0.c1
 have y2_0 := hs0.c2
 have mx1_0 := c_ hs0.b kx1
 have mx2_0 := c_ hs0.b kx2
 have mx3_0 := c_ hs0.b kx3
 have my1_0 := c_ hs0.b ky1
 have my2_0 := c_ hs0.b ky2
 have my3_0 := c_ hs0.b ky3
 clear ST ht hb hpo hz hr hcs rx kx1 kx2 kx3 ix qx ry ky1 ky2 ky3 iy qy
 rw [hk] at hs0 y0_0 y1_0 y2_0 mx1_0 mx2_0 mx3_0 my1_0 my2_0 my3_0 ⊢
 generalize hnt : n.text = ntx at *
 generalize x.kind = xk at *
 generalize x.text = xt at *
 generalize y.kind = yk at *
 generalize y.text = yt at *
 go_enter Tryz.func21, Tryz.ntmps21
 go_wp2_with (first
   | (go_at_call_of 21 (Value.agg #[Value.int IntKind.i64 yk, Value.string yt, Value.slice ay y.kids.length cy]); refine (u_ C3 _ _ hs2).mono ?_; rintro e w3 ⟨rfl, ov3, hs3⟩)
   | (go_at_call_of 21 (Value.agg #[Value.int IntKind.i64 xk, Value.string xt, Value.slice ax x.kids.length cx]); refine (u_ C2 _ _ hs1).mono ?_; rintro e w2 ⟨rfl, ov2, hs2⟩; have y2_2 := hs2.c2; have my1_2 := c_ hs2.b (u_ HKy1); have my2_2 := c_ hs2.b (u_ HKy2); have my3_2 := c_ hs2.b (u_ HKy3))
   | (go_at_call_of 20 (Value.string ⟨#[105, 102]⟩); refine (u_ C1 _ _ hs0).mono ?_; rintro e w1 ⟨rfl, ov1, hs1⟩; have y2_1 := hs1.c2; have mx1_1 := c_ hs1.b (u_ HKx1); have mx2_1 := c_ hs1.b (u_ HKx2); have mx3_1 := c_ hs1.b (u_ HKx3); have my1_1 := c_ hs1.b (u_ HKy1); have my2_1 := c_ hs1.b (u_ HKy2); have my3_1 := c_ hs1.b (u_ HKy3)))
 exact e21 rfl ⟨rfl, ov3, hs3.po, hs3.pr⟩
theorem sp29b (n : Nd) (x : Nd) (y : Nd) (z : Nd) (hk : n.kind = 29) (hks : n.kids = [x, y, z]) (ix : SpC x) (qx : fmP x) (iy : SpC y) (qy : fmP y) (iz : SpC z) (qz : fmP z) : ST 21 n (fun T => T ++ [[105, 102]] ++ tk x ++ tk y ++ [[101, 108, 115, 101]] ++ tk z) := by
 intro v W0 w pb T ov ht hr hb hp hpo hz
 dsimp only at hz ⊢
 have hl := len_okP hr
 rcases RdK_cases hr with ⟨h0, _⟩ | ⟨b, o, c, vs, hv, hn, hcs⟩
 · rw [hks] at h0; cases h0
 subst hv
 have hcap := RdK_cap hr
 obtain ⟨kx1, kx2, kx3, tx, rx⟩ := hcs 0 x (by rw [hks]; rfl)
 obtain ⟨ax, cx, hvx⟩ := RdK_slice rx
 rw [hvx] at kx3 rx
 obtain ⟨ky1, ky2, ky3, ty, ry⟩ := hcs 1 y (by rw [hks]; rfl)
 obtain ⟨ay, cy, hvy⟩ := RdK_slice ry
 rw [hvy] at ky3 ry
 obtain ⟨kz1, kz2, kz3, tz, rz⟩ := hcs 2 z (by rw [hks]; rfl)
 obtain ⟨az, cz, hvz⟩ := RdK_slice rz
 rw [hvz] at kz3 rz
 simp only [Nat.zero_mul, Nat.add_zero, Nat.one_mul] at kx1 kx2 kx3 ky1 ky2 ky3 kz1 kz2 kz3
 rw [hks] at hcap hr
 have hlen : n.kids.length = 3 := by rw [hks]; rfl
 rw [hlen]
 have ST := h_ (Stt.start (n := n) (nv := .slice (some ⟨b, o, none⟩) 3 c) hb hpo 30)
 have C1 : Hid (SC W0 pb n (.slice (some ⟨b, o, none⟩) 3 c) w ov 20 [.string ⟨#[105, 102]⟩] (T) (T ++ [[105, 102]])) := h_ (stt_put hp ⟨#[105, 102]⟩ [105, 102] rfl (by simp only [sizeT_app] at hz ⊢; omega))
 have C2 : Hid (SC W0 pb n (.slice (some ⟨b, o, none⟩) 3 c) w ov 21 [.agg #[.int .i64 x.kind, .string x.text, .slice ax x.kids.length cx]] (T ++ [[105, 102]]) (T ++ [[105, 102]] ++ tk x)) := h_ (stt_node hp ix qx tx rx (by simp only [sizeT_app] at hz ⊢; omega))
 have C3 : Hid (SC W0 pb n (.slice (some ⟨b, o, none⟩) 3 c) w ov 21 [.agg #[.int .i64 y.kind, .string y.text, .slice ay y.kids.length cy]] (T ++ [[105, 102]] ++ tk x) (T ++ [[105, 102]] ++ tk x ++ tk y)) := h_ (stt_node hp iy qy ty ry (by simp only [sizeT_app] at hz ⊢; omega))
 have C4 : Hid (SC W0 pb n (.slice (some ⟨b, o, none⟩) 3 c) w ov 20 [.string ⟨#[101, 108, 115, 101]⟩] (T ++ [[105, 102]] ++ tk x ++ tk y) (T ++ [[105, 102]] ++ tk x ++ tk y ++ [[101, 108, 115, 101]])) := h_ (stt_put hp ⟨#[101, 108, 115, 101]⟩ [101, 108, 115, 101] rfl (by simp only [sizeT_app] at hz ⊢; omega))
 have C5 : Hid (SC W0 pb n (.slice (some ⟨b, o, none⟩) 3 c) w ov 21 [.agg #[.int .i64 z.kind, .string z.text, .slice az z.kids.length cz]] (T ++ [[105, 102]] ++ tk x ++ tk y ++ [[101, 108, 115, 101]]) (T ++ [[105, 102]] ++ tk x ++ tk y ++ [[101, 108, 115, 101]] ++ tk z)) := h_ (stt_node hp iz qz tz rz hz)
 have HKx1 := h_ kx1
 have HKx2 := h_ kx2
 have HKx3 := h_ kx3
 have HKy1 := h_ ky1
 have HKy2 := h_ ky2
 have HKy3 := h_ ky3
 have HKz1 := h_ kz1
 have HKz2 := h_ kz2
 have HKz3 := h_ kz3
 unfold ndV
 have HK := h_ hk
 have hs0 := u_ ST
 have y0_0 := hs0.c0
 have y1_0 := hs0.c1
 have y2_0 := hs0.c2
 have mx1_0 := c_ hs0.b kx1
 have mx2_0 := c_ hs0.b kx2
 have mx3_0 := c_ hs0.b kx3
 have my1_0 := c_ hs0.b ky1
 have my2_0 := c_ hs0.b ky2
 have my3_0 := c_ hs0.b ky3
 have mz1_0 := c_ hs0.b kz1
 have mz2_0 := c_ hs0.b kz2
 have mz3_0 := c_ hs0.b kz3
 clear ST ht hb hpo hz hr hcs rx kx1 kx2 kx3 ix qx ry ky1 ky2 ky3 iy qy rz kz1 kz2 kz3 iz qz
 rw [hk] at hs0 y0_0 y1_0 y2_0 mx1_0 mx2_0 mx3_0 my1_0 my2_0 my3_0 mz1_0 mz2_0 mz3_0 ⊢
 generalize hnt : n.text = ntx at *
 generalize x.kind = xk at *
 generalize x.text = xt at *
 generalize y.kind = yk at *
 generalize y.text = yt at *
 generalize z.kind = zk at *
 generalize z.text = zt at *
 go_enter Tryz.func21, Tryz.ntmps21
 go_wp2_with (first
   | (go_at_call_of 21 (Value.agg #[Value.int IntKind.i64 zk, Value.string zt, Value.slice az z.kids.length cz]); refine (u_ C5 _ _ hs4).mono ?_; rintro e w5 ⟨rfl, ov5, hs5⟩)
   | (go_at_call_of 20 (Value.string ⟨#[101, 108, 115, 101]⟩); refine (u_ C4 _ _ hs3).mono ?_; rintro e w4 ⟨rfl, ov4, hs4⟩; have y2_4 := hs4.c2; have mz1_4 := c_ hs4.b (u_ HKz1); have mz2_4 := c_ hs4.b (u_ HKz2); have mz3_4 := c_ hs4.b (u_ HKz3))
   | (go_at_call_of 21 (Value.agg #[Value.int IntKind.i64 yk, Value.string yt, Value.slice ay y.kids.length cy]); refine (u_ C3 _ _ hs2).mono ?_; rintro e w3 ⟨rfl, ov3, hs3⟩; have y2_3 := hs3.c2; have mz1_3 := c_ hs3.b (u_ HKz1); have mz2_3 := c_ hs3.b (u_ HKz2); have mz3_3 := c_ hs3.b (u_ HKz3))
   | (go_at_call_of 21 (Value.agg #[Value.int IntKind.i64 xk, Value.string xt, Value.slice ax x.kids.length cx]); refine (u_ C2 _ _ hs1).mono ?_; rintro e w2 ⟨rfl, ov2, hs2⟩; have y2_2 := hs2.c2; have my1_2 := c_ hs2.b (u_ HKy1); have my2_2 := c_ hs2.b (u_ HKy2); have my3_2 := c_ hs2.b (u_ HKy3); have mz1_2 := c_ hs2.b (u_ HKz1); have mz2_2 := c_ hs2.b (u_ HKz2); have mz3_2 := c_ hs2.b (u_ HKz3))
   | (go_at_call_of 20 (Value.string ⟨#[105, 102]⟩); refine (u_ C1 _ _ hs0).mono ?_; rintro e w1 ⟨rfl, ov1, hs1⟩; have y2_1 := hs1.c2; have mx1_1 := c_ hs1.b (u_ HKx1); have mx2_1 := c_ hs1.b (u_ HKx2); have mx3_1 := c_ hs1.b (u_ HKx3); have my1_1 := c_ hs1.b (u_ HKy1); have my2_1 := c_ hs1.b (u_ HKy2); have my3_1 := c_ hs1.b (u_ HKy3); have mz1_1 := c_ hs1.b (u_ HKz1); have mz2_1 := c_ hs1.b (u_ HKz2); have mz3_1 := c_ hs1.b (u_ HKz3)))
 exact e21 rfl ⟨rfl, ov5, hs5.po, hs5.pr⟩
theorem sp23 (n : Nd) (hk : n.kind = 23) (ih : ∀ x ∈ n.kids, SpC x) (hf : ∀ x ∈ n.kids, fmP x) : ST 21 n (fun T => T ++ ([[123]] ++ joinT [] ((n.kids).map tk) ++ [[125]])) := by
 intro v W0 w pb T ov ht hr hb hp hpo hz
 dsimp only at hz ⊢
 have hl := len_okP hr
 obtain ⟨a0, c0, hv0⟩ := RdK_slice hr
 have HR := h_ hr
 subst hv0
 have ST := h_ (Stt.start (n := n) (nv := .slice a0 n.kids.length c0) hb hpo 30)
 have C1 : Hid (SC W0 pb n (.slice a0 n.kids.length c0) w ov 34 [.string ⟨#[123]⟩, .slice a0 n.kids.length c0, .string ⟨#[]⟩, .string ⟨#[125]⟩] (T) (T ++ ([[123]] ++ joinT [] ((n.kids).map tk) ++ [[125]]))) := h_ (stt_around hp ih hf ⟨#[123]⟩ ⟨#[]⟩ ⟨#[125]⟩ [123] [] [125] rfl rfl rfl hr hz)
 unfold ndV
 have HK := h_ hk
 have hs0 := u_ ST
 have y0_0 := hs0.c0
 have y1_0 := hs0.c1
 have y2_0 := hs0.c2
 clear ST ht hb hpo hz hr
 rw [hk] at hs0 y0_0 y1_0 y2_0  ⊢
 generalize hnt : n.text = ntx at *
 go_enter Tryz.func21, Tryz.ntmps21
 go_wp2_with (first
   | (go_at_call 34; refine (u_ C1 _ _ hs0).mono ?_; rintro e w1 ⟨rfl, ov1, hs1⟩))
 exact e21 rfl ⟨rfl, ov1, hs1.po, hs1.pr⟩
theorem sp26 (n : Nd) (hk : n.kind = 26) (ih : ∀ x ∈ n.kids, SpC x) (hf : ∀ x ∈ n.kids, fmP x) : ST 21 n (fun T => T ++ ([[123]] ++ joinT [] ((n.kids).map tk) ++ [[125]])) := by
 intro v W0 w pb T ov ht hr hb hp hpo hz
 dsimp only at hz ⊢
 have hl := len_okP hr
 obtain ⟨a0, c0, hv0⟩ := RdK_slice hr
 have HR := h_ hr
 subst hv0
 have ST := h_ (Stt.start (n := n) (nv := .slice a0 n.kids.length c0) hb hpo 30)
 have C1 : Hid (SC W0 pb n (.slice a0 n.kids.length c0) w ov 34 [.string ⟨#[123]⟩, .slice a0 n.kids.length c0, .string ⟨#[]⟩, .string ⟨#[125]⟩] (T) (T ++ ([[123]] ++ joinT [] ((n.kids).map tk) ++ [[125]]))) := h_ (stt_around hp ih hf ⟨#[123]⟩ ⟨#[]⟩ ⟨#[125]⟩ [123] [] [125] rfl rfl rfl hr hz)
 unfold ndV
 have HK := h_ hk
 have hs0 := u_ ST
 have y0_0 := hs0.c0
 have y1_0 := hs0.c1
 have y2_0 := hs0.c2
 clear ST ht hb hpo hz hr
 rw [hk] at hs0 y0_0 y1_0 y2_0  ⊢
 generalize hnt : n.text = ntx at *
 go_enter Tryz.func21, Tryz.ntmps21
 go_wp2_with (first
   | (go_at_call 34; refine (u_ C1 _ _ hs0).mono ?_; rintro e w1 ⟨rfl, ov1, hs1⟩))
 exact e21 rfl ⟨rfl, ov1, hs1.po, hs1.pr⟩
theorem sp25 (n : Nd) (x : Nd) (hk : n.kind = 25) (hks : n.kids = [x]) (ix : SpC x) (qx : fmP x) : ST 21 n (fun T => T ++ [[46]] ++ [L n.text] ++ ([[40]] ++ joinT [] (([x]).map tk) ++ [[41]])) := by
 intro v W0 w pb T ov ht hr hb hp hpo hz
 dsimp only at hz ⊢
 have hl := len_okP hr
 rcases RdK_cases hr with ⟨h0, _⟩ | ⟨b, o, c, vs, hv, hn, hcs⟩
 · rw [hks] at h0; cases h0
 subst hv
 have hcap := RdK_cap hr
 obtain ⟨kx1, kx2, kx3, tx, rx⟩ := hcs 0 x (by rw [hks]; rfl)
 obtain ⟨ax, cx, hvx⟩ := RdK_slice rx
 rw [hvx] at kx3 rx
 simp only [Nat.zero_mul, Nat.add_zero] at kx1 kx2 kx3
 rw [hks] at hcap hr
 have hlen : n.kids.length = 1 := by rw [hks]; rfl
 rw [hlen]
 have ST := h_ (Stt.start (n := n) (nv := .slice (some ⟨b, o, none⟩) 1 c) hb hpo 30)
 have C1 : Hid (SC W0 pb n (.slice (some ⟨b, o, none⟩) 1 c) w ov 20 [.string ⟨#[46]⟩] (T) (T ++ [[46]])) := h_ (stt_put hp ⟨#[46]⟩ [46] rfl (by simp only [sizeT_app] at hz ⊢; omega))
 have C2 : Hid (SC W0 pb n (.slice (some ⟨b, o, none⟩) 1 c) w ov 20 [.string n.text] (T ++ [[46]]) (T ++ [[46]] ++ [L n.text])) := h_ (stt_put hp n.text (L n.text) rfl (by simp only [sizeT_app] at hz ⊢; omega))
 have C3 : Hid (SC W0 pb n (.slice (some ⟨b, o, none⟩) 1 c) w ov 34 [.string ⟨#[40]⟩, .slice (some ⟨b, o, none⟩) 1 c, .string ⟨#[]⟩, .string ⟨#[41]⟩] (T ++ [[46]] ++ [L n.text]) (T ++ [[46]] ++ [L n.text] ++ ([[40]] ++ joinT [] (([x]).map tk) ++ [[41]]))) := h_ (stt_around hp (fun z hz => by simp only [List.mem_cons, List.mem_nil_iff, or_false] at hz; subst hz; assumption) (fun z hz => by simp only [List.mem_cons, List.mem_nil_iff, or_false] at hz; subst hz; assumption) ⟨#[40]⟩ ⟨#[]⟩ ⟨#[41]⟩ [40] [] [41] rfl rfl rfl hr hz)
 have HKx1 := h_ kx1
 have HKx2 := h_ kx2
 have HKx3 := h_ kx3
 unfold ndV
 have HK := h_ hk
 have hs0 := u_ ST
 have y0_0 := hs0.c0
 have y1_0 := hs0.c1
 have y2_0 := hs0.c2
 have mx1_0 := c_ hs0.b kx1
 have mx2_0 := c_ hs0.b kx2
 have mx3_0 := c_ hs0.b kx3
 clear ST ht hb hpo hz hr hcs rx kx1 kx2 kx3 ix qx
 rw [hk] at hs0 y0_0 y1_0 y2_0 mx1_0 mx2_0 mx3_0 ⊢
 generalize hnt : n.text = ntx at *
 generalize x.kind = xk at *
 generalize x.text = xt at *
 go_enter Tryz.func21, Tryz.ntmps21
 go_wp2_with (first
   | (go_at_call 34; refine (u_ C3 _ _ hs2).mono ?_; rintro e w3 ⟨rfl, ov3, hs3⟩)
   | (go_at_call_of 20 (Value.string ntx); refine (u_ C2 _ _ hs1).mono ?_; rintro e w2 ⟨rfl, ov2, hs2⟩; have y2_2 := hs2.c2)
   | (go_at_call_of 20 (Value.string ⟨#[46]⟩); refine (u_ C1 _ _ hs0).mono ?_; rintro e w1 ⟨rfl, ov1, hs1⟩; have y1_1 := hs1.c1; have y2_1 := hs1.c2; rw [hnt] at y1_1))
 exact e21 rfl ⟨rfl, ov3, hs3.po, hs3.pr⟩
theorem sp32 (n : Nd) (x : Nd) (hk : n.kind = 32) (hks : n.kids = [x]) (ix : SpC x) (qx : fmP x) : ST 21 n (fun T => T ++ [[100, 101, 102, 97, 117, 108, 116]] ++ [[58]] ++ tk x) := by
 intro v W0 w pb T ov ht hr hb hp hpo hz
 dsimp only at hz ⊢
 have hl := len_okP hr
 rcases RdK_cases hr with ⟨h0, _⟩ | ⟨b, o, c, vs, hv, hn, hcs⟩
 · rw [hks] at h0; cases h0
 subst hv
 have hcap := RdK_cap hr
 obtain ⟨kx1, kx2, kx3, tx, rx⟩ := hcs 0 x (by rw [hks]; rfl)
 obtain ⟨ax, cx, hvx⟩ := RdK_slice rx
 rw [hvx] at kx3 rx
 simp only [Nat.zero_mul, Nat.add_zero] at kx1 kx2 kx3
 rw [hks] at hcap hr
 have hlen : n.kids.length = 1 := by rw [hks]; rfl
 rw [hlen]
 have ST := h_ (Stt.start (n := n) (nv := .slice (some ⟨b, o, none⟩) 1 c) hb hpo 30)
 have C1 : Hid (SC W0 pb n (.slice (some ⟨b, o, none⟩) 1 c) w ov 20 [.string ⟨#[100, 101, 102, 97, 117, 108, 116]⟩] (T) (T ++ [[100, 101, 102, 97, 117, 108, 116]])) := h_ (stt_put hp ⟨#[100, 101, 102, 97, 117, 108, 116]⟩ [100, 101, 102, 97, 117, 108, 116] rfl (by simp only [sizeT_app] at hz ⊢; omega))
 have C2 : Hid (SC W0 pb n (.slice (some ⟨b, o, none⟩) 1 c) w ov 20 [.string ⟨#[58]⟩] (T ++ [[100, 101, 102, 97, 117, 108, 116]]) (T ++ [[100, 101, 102, 97, 117, 108, 116]] ++ [[58]])) := h_ (stt_put hp ⟨#[58]⟩ [58] rfl (by simp only [sizeT_app] at hz ⊢; omega))
 have C3 : Hid (SC W0 pb n (.slice (some ⟨b, o, none⟩) 1 c) w ov 21 [.agg #[.int .i64 x.kind, .string x.text, .slice ax x.kids.length cx]] (T ++ [[100, 101, 102, 97, 117, 108, 116]] ++ [[58]]) (T ++ [[100, 101, 102, 97, 117, 108, 116]] ++ [[58]] ++ tk x)) := h_ (stt_node hp ix qx tx rx hz)
 have HKx1 := h_ kx1
 have HKx2 := h_ kx2
 have HKx3 := h_ kx3
 unfold ndV
 have HK := h_ hk
 have hs0 := u_ ST
 have y0_0 := hs0.c0
 have y1_0 := hs0.c1
 have y2_0 := hs0.c2
 have mx1_0 := c_ hs0.b kx1
 have mx2_0 := c_ hs0.b kx2
 have mx3_0 := c_ hs0.b kx3
 clear ST ht hb hpo hz hr hcs rx kx1 kx2 kx3 ix qx
 rw [hk] at hs0 y0_0 y1_0 y2_0 mx1_0 mx2_0 mx3_0 ⊢
 generalize hnt : n.text = ntx at *
 generalize x.kind = xk at *
 generalize x.text = xt at *
 go_enter Tryz.func21, Tryz.ntmps21
 go_wp2_with (first
   | (go_at_call_of 21 (Value.agg #[Value.int IntKind.i64 xk, Value.string xt, Value.slice ax x.kids.length cx]); refine (u_ C3 _ _ hs2).mono ?_; rintro e w3 ⟨rfl, ov3, hs3⟩)
   | (go_at_call_of 20 (Value.string ⟨#[58]⟩); refine (u_ C2 _ _ hs1).mono ?_; rintro e w2 ⟨rfl, ov2, hs2⟩; have y2_2 := hs2.c2; have mx1_2 := c_ hs2.b (u_ HKx1); have mx2_2 := c_ hs2.b (u_ HKx2); have mx3_2 := c_ hs2.b (u_ HKx3))
   | (go_at_call_of 20 (Value.string ⟨#[100, 101, 102, 97, 117, 108, 116]⟩); refine (u_ C1 _ _ hs0).mono ?_; rintro e w1 ⟨rfl, ov1, hs1⟩; have y2_1 := hs1.c2; have mx1_1 := c_ hs1.b (u_ HKx1); have mx2_1 := c_ hs1.b (u_ HKx2); have mx3_1 := c_ hs1.b (u_ HKx3)))
 exact e21 rfl ⟨rfl, ov3, hs3.po, hs3.pr⟩
theorem sp34 (n : Nd) (x : Nd) (hk : n.kind = 34) (hks : n.kids = [x]) (ix : SpC x) (qx : fmP x) : ST 21 n (fun T => T ++ ([[119, 97, 105, 116]] ++ joinT [] (([x]).map tk) ++ [[59]])) := by
 intro v W0 w pb T ov ht hr hb hp hpo hz
 dsimp only at hz ⊢
 have hl := len_okP hr
 rcases RdK_cases hr with ⟨h0, _⟩ | ⟨b, o, c, vs, hv, hn, hcs⟩
 · rw [hks] at h0; cases h0
 subst hv
 have hcap := RdK_cap hr
 obtain ⟨kx1, kx2, kx3, tx, rx⟩ := hcs 0 x (by rw [hks]; rfl)
 obtain ⟨ax, cx, hvx⟩ := RdK_slice rx
 rw [hvx] at kx3 rx
 simp only [Nat.zero_mul, Nat.add_zero] at kx1 kx2 kx3
 rw [hks] at hcap hr
 have hlen : n.kids.length = 1 := by rw [hks]; rfl
 rw [hlen]
 have ST := h_ (Stt.start (n := n) (nv := .slice (some ⟨b, o, none⟩) 1 c) hb hpo 30)
 have C1 : Hid (SC W0 pb n (.slice (some ⟨b, o, none⟩) 1 c) w ov 34 [.string ⟨#[119, 97, 105, 116]⟩, .slice (some ⟨b, o, none⟩) 1 c, .string ⟨#[]⟩, .string ⟨#[59]⟩] (T) (T ++ ([[119, 97, 105, 116]] ++ joinT [] (([x]).map tk) ++ [[59]]))) := h_ (stt_around hp (fun z hz => by simp only [List.mem_cons, List.mem_nil_iff, or_false] at hz; subst hz; assumption) (fun z hz => by simp only [List.mem_cons, List.mem_nil_iff, or_false] at hz; subst hz; assumption) ⟨#[119, 97, 105, 116]⟩ ⟨#[]⟩ ⟨#[59]⟩ [119, 97, 105, 116] [] [59] rfl rfl rfl hr hz)
 have HKx1 := h_ kx1
 have HKx2 := h_ kx2
 have HKx3 := h_ kx3
 unfold ndV
 have HK := h_ hk
 have hs0 := u_ ST
 have y0_0 := hs0.c0
 have y1_0 := hs0.c1
 have y2_0 := hs0.c2
 have mx1_0 := c_ hs0.b kx1
 have mx2_0 := c_ hs0.b kx2
 have mx3_0 := c_ hs0.b kx3
 clear ST ht hb hpo hz hr hcs rx kx1 kx2 kx3 ix qx
 rw [hk] at hs0 y0_0 y1_0 y2_0 mx1_0 mx2_0 mx3_0 ⊢
 generalize hnt : n.text = ntx at *
 generalize x.kind = xk at *
 generalize x.text = xt at *
 go_enter Tryz.func21, Tryz.ntmps21
 go_wp2_with (first
   | (go_at_call 34; refine (u_ C1 _ _ hs0).mono ?_; rintro e w1 ⟨rfl, ov1, hs1⟩))
 exact e21 rfl ⟨rfl, ov1, hs1.po, hs1.pr⟩
theorem sp35 (n : Nd) (hk : n.kind = 35) (hks : n.kids = [])  : ST 21 n (fun T => T ++ [[115, 116, 111, 112]] ++ [[59]]) := by
 intro v W0 w pb T ov ht hr hb hp hpo hz
 dsimp only at hz ⊢
 have hl := len_okP hr
 obtain ⟨a0, c0, hv0⟩ := RdK_slice hr
 have HR := h_ hr
 subst hv0
 have hlen : n.kids.length = 0 := by rw [hks]; rfl
 rw [hlen]
 have ST := h_ (Stt.start (n := n) (nv := .slice a0 0 c0) hb hpo 30)
 have C1 : Hid (SC W0 pb n (.slice a0 0 c0) w ov 20 [.string ⟨#[115, 116, 111, 112]⟩] (T) (T ++ [[115, 116, 111, 112]])) := h_ (stt_put hp ⟨#[115, 116, 111, 112]⟩ [115, 116, 111, 112] rfl (by simp only [sizeT_app] at hz ⊢; omega))
 have C2 : Hid (SC W0 pb n (.slice a0 0 c0) w ov 20 [.string ⟨#[59]⟩] (T ++ [[115, 116, 111, 112]]) (T ++ [[115, 116, 111, 112]] ++ [[59]])) := h_ (stt_put hp ⟨#[59]⟩ [59] rfl hz)
 unfold ndV
 have HK := h_ hk
 have hs0 := u_ ST
 have y0_0 := hs0.c0
 have y1_0 := hs0.c1
 have y2_0 := hs0.c2
 clear ST ht hb hpo hz hr
 rw [hk] at hs0 y0_0 y1_0 y2_0  ⊢
 generalize hnt : n.text = ntx at *
 go_enter Tryz.func21, Tryz.ntmps21
 go_wp2_with (first
   | (go_at_call_of 20 (Value.string ⟨#[59]⟩); refine (u_ C2 _ _ hs1).mono ?_; rintro e w2 ⟨rfl, ov2, hs2⟩)
   | (go_at_call_of 20 (Value.string ⟨#[115, 116, 111, 112]⟩); refine (u_ C1 _ _ hs0).mono ?_; rintro e w1 ⟨rfl, ov1, hs1⟩))
 exact e21 rfl ⟨rfl, ov2, hs2.po, hs2.pr⟩
theorem Stt.drew {W0 : World} {pb kN : Nat} {n : Nd} {nv : Value} {w0 : World} {ov0 : Value} {T : List Tok} {ov : Value} {W : World} (h : Stt W0 pb kN n nv w0 ov0 T ov W) : Stt W0 pb kN n nv w0 ov0 T ov W.drew :=
 ⟨bdr h.b, ⟨h.po.row, h.po.c0, h.po.c1, h.po.c2, h.po.f0, h.po.f1, h.po.f2⟩, h.c0, h.c1, h.c2, h.ne, h.ap, h.pr.drew⟩
theorem stt_of {A B C D E F : Prop} {W0 : World} {pb kN : Nat} {n : Nd} {nv : Value} {w0 : World} {ov0 : Value} {T : List Tok} {ov : Value} {W : World} (h : A ∧ B ∧ C ∧ D ∧ E ∧ F ∧ Stt W0 pb kN n nv w0 ov0 T ov W) : Stt W0 pb kN n nv w0 ov0 T ov W := h.2.2.2.2.2.2
structure Apt (pb k : Nat) (ov : Value) (W : World) : Prop where
 ne : k ≠ pb
 ap : ov.ownBlock ≠ some k
 lt : k < W.heap.size
theorem Apt.next {pb k : Nat} {ov ov' : Value} {W W' : World} (h : Apt pb k ov W) (hpr : Pr pb ov ov' W W') : Apt pb k ov' W' := ⟨h.ne, hpr.apart h.lt h.ap, Nat.lt_of_lt_of_le h.lt hpr.size⟩
theorem Apt.cell {pb k o : Nat} {ov ov' x : Value} {W W' : World} (h : Apt pb k ov W) (hpr : Pr pb ov ov' W W') (hc : W.cell? ⟨k, o, none⟩ = some x) : W'.cell? ⟨k, o, none⟩ = some x := hpr.cell hc h.ne h.ap
set_option maxHeartbeats 800000 in
theorem sTwo {x y : Nd} (ix : SpC x) (qx : fmP x) (tx : x.text.size ≤ maxLen) (iy : SpC y) (qy : fmP y) (ty : y.text.size ≤ maxLen) (op : ByteArray) (vx vy : Value) (W0 w : World) (pb : Nat) (T : List Tok) (ov : Value) (rx : RdK W0 x.kids vx) (ry : RdK W0 y.kids vy) (hb : Below W0.heap.size W0 w) (hp : W0.heap.size ≤ pb) (hpo : Po pb T ov w) (hz : sizeT (T ++ (tk x ++ [L op] ++ tk y ++ [[59]])) ≤ 1099511627776) :
   Calls Tryz.prog 35 #[.pointer (some ⟨pb, 0, none⟩), .agg #[.int .i64 x.kind, .string x.text, vx], .string op, .agg #[.int .i64 y.kind, .string y.text, vy]] w fun e w' => e = .returned (.tuple #[]) ∧ ∃ ov', Po pb (T ++ (tk x ++ [L op] ++ tk y ++ [[59]])) ov' w' ∧ Pr pb ov ov' w w' := by
 have C1 := h_ (fun (W : World) (o' : Value) (h1 : Below W0.heap.size W0 W) (h2 : Po pb T o' W) => nodeP ix vx W0 W pb T o' tx qx rx h1 hp h2 (by simp only [sizeT_app] at hz ⊢; omega))
 have C2 := h_ (fun (W : World) (o' : Value) (h2 : Po pb (T ++ tk x) o' W) => sPut pb (T ++ tk x) o' op W h2 (by simp only [sizeT_app] at hz ⊢; omega))
 have C3 := h_ (fun (W : World) (o' : Value) (h1 : Below W0.heap.size W0 W) (h2 : Po pb (T ++ tk x ++ [L op]) o' W) => nodeP iy vy W0 W pb (T ++ tk x ++ [L op]) o' ty qy ry h1 hp h2 (by simp only [sizeT_app] at hz ⊢; omega))
 have C4 := h_ (fun (W : World) (o' : Value) (h2 : Po pb (T ++ tk x ++ [L op] ++ tk y) o' W) => sPut pb (T ++ tk x ++ [L op] ++ tk y) o' ⟨#[59]⟩ W h2 (by show sizeT (T ++ tk x ++ [L op] ++ tk y ++ [[59]]) ≤ _; simp only [sizeT_app] at hz ⊢; omega))
 obtain ⟨ax, cx, hvx⟩ := RdK_slice rx
 obtain ⟨ay, cy, hvy⟩ := RdK_slice ry
 subst hvx hvy
 have hlt := hpo.lt
 have hB0 := (hb.alloc hb.size (Obj.cells #[Value.int IntKind.i64 x.kind, Value.string x.text, Value.slice ax x.kids.length cx] 30)).alloc (by have := hb.size; simp; omega) (Obj.cells #[Value.int IntKind.i64 y.kind, Value.string y.text, Value.slice ay y.kids.length cy] 30)
 have hP0 := (hpo.alloc (Obj.cells #[Value.int IntKind.i64 x.kind, Value.string x.text, Value.slice ax x.kids.length cx] 30)).alloc (Obj.cells #[Value.int IntKind.i64 y.kind, Value.string y.text, Value.slice ay y.kids.length cy] 30)
 have hR0 := ((Pr.refl pb ov w).alloc (Obj.cells #[Value.int IntKind.i64 x.kind, Value.string x.text, Value.slice ax x.kids.length cx] 30)).alloc (Obj.cells #[Value.int IntKind.i64 y.kind, Value.string y.text, Value.slice ay y.kids.length cy] 30)
 have hsz : (w.alloc (Obj.cells #[Value.int IntKind.i64 x.kind, Value.string x.text, Value.slice ax x.kids.length cx] 30)).heap.size = w.heap.size + 1 := by simp
 have hA0 : Apt pb (w.heap.size + 1) ov ((w.alloc (Obj.cells #[Value.int IntKind.i64 x.kind, Value.string x.text, Value.slice ax x.kids.length cx] 30)).alloc (Obj.cells #[Value.int IntKind.i64 y.kind, Value.string y.text, Value.slice ay y.kids.length cy] 30)) :=
   ⟨by omega, fun e => by have := (World.ownsRow.lt hpo.row _ e).2; omega, by simp⟩
 have z0 : ((w.alloc (Obj.cells #[Value.int IntKind.i64 x.kind, Value.string x.text, Value.slice ax x.kids.length cx] 30)).alloc (Obj.cells #[Value.int IntKind.i64 y.kind, Value.string y.text, Value.slice ay y.kids.length cy] 30)).cell? ⟨w.heap.size + 1, 0, none⟩ = some (.int .i64 y.kind) := by rw [← hsz, World.cell?_alloc_new]; rfl
 have z1 : ((w.alloc (Obj.cells #[Value.int IntKind.i64 x.kind, Value.string x.text, Value.slice ax x.kids.length cx] 30)).alloc (Obj.cells #[Value.int IntKind.i64 y.kind, Value.string y.text, Value.slice ay y.kids.length cy] 30)).cell? ⟨w.heap.size + 1, 1, none⟩ = some (.string y.text) := by rw [← hsz, World.cell?_alloc_new]; rfl
 have z2 : ((w.alloc (Obj.cells #[Value.int IntKind.i64 x.kind, Value.string x.text, Value.slice ax x.kids.length cx] 30)).alloc (Obj.cells #[Value.int IntKind.i64 y.kind, Value.string y.text, Value.slice ay y.kids.length cy] 30)).cell? ⟨w.heap.size + 1, 2, none⟩ = some (.slice ay y.kids.length cy) := by rw [← hsz, World.cell?_alloc_new]; rfl
 have HB0 := h_ hB0
 have HP0 := h_ hP0
 have HR0 := h_ hR0
 have HA0 := h_ hA0
 have Z0 := h_ z0
 have Z1 := h_ z1
 have Z2 := h_ z2
 clear rx ry hpo hb hB0 hP0 hR0 hA0 ix iy qx qy hz hsz z0 z1 z2
 generalize x.kind = xk at *
 generalize x.text = xt at *
 generalize y.kind = yk at *
 generalize y.text = yt at *
 go_enter Tryz.func35, Tryz.ntmps35
 go_wp2_with (first
   | (go_at_call_of 20 (Value.string ⟨#[59]⟩); refine (u_ C4 _ _ p3).mono ?_; rintro e w4 ⟨rfl, o4, p4, r4⟩)
   | (go_at_call_of 21 (Value.agg #[Value.int IntKind.i64 yk, Value.string yt, Value.slice ay y.kids.length cy]); refine (u_ C3 _ _ b2 p2).mono ?_; rintro e w3 ⟨rfl, o3, p3, r3⟩)
   | (go_at_call_of 20 (Value.string op); refine (u_ C2 _ _ p1).mono ?_; rintro e w2 ⟨rfl, o2, p2, r2⟩; have b2 := below_pr b1 hp p1 r2; have f0 := a1.cell r2 e0; have f1 := a1.cell r2 e1; have f2 := a1.cell r2 e2)
   | (go_at_call_of 21 (Value.agg #[Value.int IntKind.i64 xk, Value.string xt, Value.slice ax x.kids.length cx]); refine (u_ C1 _ _ (u_ HB0) (u_ HP0)).mono ?_; rintro e w1 ⟨rfl, o1, p1, r1⟩; have b1 := below_pr (u_ HB0) hp (u_ HP0) r1; have a1 := (u_ HA0).next r1; have e0 := (u_ HA0).cell r1 (u_ Z0); have e1 := (u_ HA0).cell r1 (u_ Z1); have e2 := (u_ HA0).cell r1 (u_ Z2)))
 exact e35 rfl ⟨rfl, o4, by have h59 : L ⟨#[59]⟩ = [59] := rfl; rw [h59] at p4; simpa [List.append_assoc] using p4, (((u_ HR0).trans r1).trans r2).trans (r3.trans r4)⟩
theorem stt_two {W0 : World} {pb kN : Nat} {n : Nd} {nv : Value} {w0 : World} {ov0 : Value} {S : List Tok} (hp : W0.heap.size ≤ pb) {x y : Nd} (ix : SpC x) (qx : fmP x) (tx : x.text.size ≤ maxLen) {vx vy : Value} (rx : RdK W0 x.kids vx) (iy : SpC y) (qy : fmP y) (ty : y.text.size ≤ maxLen) (ry : RdK W0 y.kids vy) (op : ByteArray) (to : Tok) (ho : L op = to) (hz : sizeT (S ++ (tk x ++ [to] ++ tk y ++ [[59]])) ≤ 1099511627776) (W : World) (ov : Value) (h : Stt W0 pb kN n nv w0 ov0 S ov W) :
   Calls Tryz.prog 35 #[.pointer (some ⟨pb, 0, none⟩), .agg #[.int .i64 x.kind, .string x.text, vx], .string op, .agg #[.int .i64 y.kind, .string y.text, vy]] W fun e w' => e = .returned (.tuple #[]) ∧ ∃ ov', Stt W0 pb kN n nv w0 ov0 (S ++ (tk x ++ [to] ++ tk y ++ [[59]])) ov' w' := by
 subst ho
 exact stt_call hp (fun W ov hpo hb => sTwo ix qx tx iy qy ty op vx vy W0 W pb S ov rx ry hb hp hpo hz) W ov h
end Go.Proofs.YtddlokkejglckaaGreatDoor
