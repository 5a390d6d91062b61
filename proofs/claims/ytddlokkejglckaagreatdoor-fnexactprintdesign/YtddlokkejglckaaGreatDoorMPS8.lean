/- Parts of the proof: PS8 to PS10. -/
import Derived.Test.YtddlokkejglckaaGreatDoorMPS6
import Derived.Test.YtddlokkejglckaaGreatDoorMPD1
namespace Go.Proofs.YtddlokkejglckaaGreatDoor
open Go.RowKit Nt
set_option maxHeartbeats 800000
set_option linter.unusedVariables false
set_option maxRecDepth 100000
theorem sp14 (n : Nd) (x : Nd) (y : Nd) (hk : n.kind = 14) (hks : n.kids = [x, y]) (ix : SpC x) (qx : fmP x) (iy : SpC y) (qy : fmP y) : ST 21 n (fun T => T ++ [[97, 115, 115, 105, 103, 110]] ++ (tk x ++ [[61]] ++ tk y ++ [[59]])) := by
 intro v W0 w pb T ov ht hr hb hp hpo hz
 dsimp only at hz ⊢
 have hl := len_okP hr
 rcases RdK_cases hr with ⟨h0, _⟩ | ⟨b, o, c, vs, hv, hn, hcs⟩
 · rw [hks] at h0; cases h0
 subst hv
 have hcap := RdK_cap hr
 obtain ⟨kx1, kx2, kx3, tx, rx⟩ := hcs 0 x (by rw [hks]; rfl)
 obtain ⟨ax, cx, hvx⟩ := RdK_slice rx
 rw [hvx] at kx3 rx
 obtain ⟨ky1, ky2, ky3, ty, ry⟩ := hcs 1 y (by rw [hks]; rfl)
 obtain ⟨ay, cy, hvy⟩ := RdK_slice ry
 rw [hvy] at ky3 ry
 simp only [Nat.zero_mul, Nat.add_zero, Nat.one_mul] at kx1 kx2 kx3 ky1 ky2 ky3
 rw [hks] at hcap hr
 have hlen : n.kids.length = 2 := by rw [hks]; rfl
 rw [hlen]
 have ST := h_ (Stt.start (n := n) (nv := .slice (some ⟨b, o, none⟩) 2 c) hb hpo 30)
 have C1 : Hid (SC W0 pb n (.slice (some ⟨b, o, none⟩) 2 c) w ov 20 [.string ⟨#[97, 115, 115, 105, 103, 110]⟩] (T) (T ++ [[97, 115, 115, 105, 103, 110]])) := h_ (stt_put hp ⟨#[97, 115, 115, 105, 103, 110]⟩ [97, 115, 115, 105, 103, 110] rfl (by simp only [sizeT_app] at hz ⊢; omega))
 have C2 : Hid (SC W0 pb n (.slice (some ⟨b, o, none⟩) 2 c) w ov 35 [.agg #[.int .i64 x.kind, .string x.text, .slice ax x.kids.length cx], .string ⟨#[61]⟩, .agg #[.int .i64 y.kind, .string y.text, .slice ay y.kids.length cy]] (T ++ [[97, 115, 115, 105, 103, 110]]) (T ++ [[97, 115, 115, 105, 103, 110]] ++ (tk x ++ [[61]] ++ tk y ++ [[59]]))) := h_ (stt_two hp ix qx tx rx iy qy ty ry ⟨#[61]⟩ [61] rfl hz)
 have HKx1 := h_ kx1
 have HKx2 := h_ kx2
 have HKx3 := h_ kx3
 have HKy1 := h_ ky1
 have HKy2 := h_ ky2
 have HKy3 := h_ ky3
 unfold ndV
 have HK := h_ hk
 have hs0 := u_ ST
 have y0_0 := hs0.c0
 have y1_0 := hs0.c1
 have y2_0 := hs0.c2
 have mx1_0 := c_ hs0.b kx1
 have mx2_0 := c_ hs0.b kx2
 have mx3_0 := c_ hs0.b kx3
 have my1_0 := c_ hs0.b ky1
 have my2_0 := c_ hs0.b ky2
 have my3_0 := c_ hs0.b ky3
 clear ST ht hb hpo hz hr hcs rx kx1 kx2 kx3 ix qx ry ky1 ky2 ky3 iy qy
 rw [hk] at hs0 y0_0 y1_0 y2_0 mx1_0 mx2_0 mx3_0 my1_0 my2_0 my3_0 ⊢
 generalize hnt : n.text = ntx at *
 generalize x.kind = xk at *
 generalize x.text = xt at *
 generalize y.kind = yk at *
 generalize y.text = yt at *
 go_enter Tryz.func21, Tryz.ntmps21
 go_wp2_with (first
   | (go_at_call_of 20 (Value.string ⟨#[97, 115, 115, 105, 103, 110]⟩); refine (u_ C1 _ _ (by first | exact hs0 | exact hs0.alloc _)).mono ?_; rintro e w1 ⟨rfl, ov1, hs1⟩; have y0_1 := hs1.c0; have y1_1 := hs1.c1; have y2_1 := hs1.c2; rw [u_ HK] at y0_1; rw [hnt] at y1_1; have mx1_1 := c_ hs1.b (u_ HKx1); have mx2_1 := c_ hs1.b (u_ HKx2); have mx3_1 := c_ hs1.b (u_ HKx3); have my1_1 := c_ hs1.b (u_ HKy1); have my2_1 := c_ hs1.b (u_ HKy2); have my3_1 := c_ hs1.b (u_ HKy3)))

 go_region_held3 (fun w' => w'.cell? ⟨b, o, none⟩ = some (.int .i64 xk) ∧ w'.cell? ⟨b, o + 1, none⟩ = some (.string xt) ∧ w'.cell? ⟨b, o + 2, none⟩ = some (.slice ax x.kids.length cx) ∧ w'.cell? ⟨b, o + 3, none⟩ = some (.int .i64 yk) ∧ w'.cell? ⟨b, o + 3 + 1, none⟩ = some (.string yt) ∧ w'.cell? ⟨b, o + 3 + 2, none⟩ = some (.slice ay y.kids.length cy))
   (first | (exact ⟨mx1_2, mx2_2, mx3_2, my1_2, my2_2, my3_2⟩) | (exact ⟨mx1_1, mx2_1, mx3_1, my1_1, my2_1, my3_1⟩))
   (first | (go_at_call 35; refine (u_ C2 _ _ (by first | exact hs1.drew | exact hs1)).mono ?_; rintro e w2 ⟨rfl, ov2, hs2⟩; have y0_2 := hs2.c0; have y1_2 := hs2.c1; have y2_2 := hs2.c2; rw [u_ HK] at y0_2; rw [hnt] at y1_2; have mx1_2 := c_ hs2.b (u_ HKx1); have mx2_2 := c_ hs2.b (u_ HKx2); have mx3_2 := c_ hs2.b (u_ HKx3); have my1_2 := c_ hs2.b (u_ HKy1); have my2_2 := c_ hs2.b (u_ HKy2); have my3_2 := c_ hs2.b (u_ HKy3)))
 all_goals
   go_wp2
   exact e21 rfl ⟨rfl, ov2, hs2.po, hs2.pr⟩
theorem sp27 (n : Nd) (x : Nd) (y : Nd) (hk : n.kind = 27) (hks : n.kids = [x, y]) (ix : SpC x) (qx : fmP x) (iy : SpC y) (qy : fmP y) : ST 21 n (fun T => T ++ (tk x ++ [[61]] ++ tk y ++ [[59]])) := by
 intro v W0 w pb T ov ht hr hb hp hpo hz
 dsimp only at hz ⊢
 have hl := len_okP hr
 rcases RdK_cases hr with ⟨h0, _⟩ | ⟨b, o, c, vs, hv, hn, hcs⟩
 · rw [hks] at h0; cases h0
 subst hv
 have hcap := RdK_cap hr
 obtain ⟨kx1, kx2, kx3, tx, rx⟩ := hcs 0 x (by rw [hks]; rfl)
 obtain ⟨ax, cx, hvx⟩ := RdK_slice rx
 rw [hvx] at kx3 rx
 obtain ⟨ky1, ky2, ky3, ty, ry⟩ := hcs 1 y (by rw [hks]; rfl)
 obtain ⟨ay, cy, hvy⟩ := RdK_slice ry
 rw [hvy] at ky3 ry
 simp only [Nat.zero_mul, Nat.add_zero, Nat.one_mul] at kx1 kx2 kx3 ky1 ky2 ky3
 rw [hks] at hcap hr
 have hlen : n.kids.length = 2 := by rw [hks]; rfl
 rw [hlen]
 have ST := h_ (Stt.start (n := n) (nv := .slice (some ⟨b, o, none⟩) 2 c) hb hpo 30)
 have C1 : Hid (SC W0 pb n (.slice (some ⟨b, o, none⟩) 2 c) w ov 35 [.agg #[.int .i64 x.kind, .string x.text, .slice ax x.kids.length cx], .string ⟨#[61]⟩, .agg #[.int .i64 y.kind, .string y.text, .slice ay y.kids.length cy]] (T) (T ++ (tk x ++ [[61]] ++ tk y ++ [[59]]))) := h_ (stt_two hp ix qx tx rx iy qy ty ry ⟨#[61]⟩ [61] rfl hz)
 have HKx1 := h_ kx1
 have HKx2 := h_ kx2
 have HKx3 := h_ kx3
 have HKy1 := h_ ky1
 have HKy2 := h_ ky2
 have HKy3 := h_ ky3
 unfold ndV
 have HK := h_ hk
 have hs0 := u_ ST
 have y0_0 := hs0.c0
 have y1_0 := hs0.c1
 have y2_0 := hs0.c2
 have mx1_0 := c_ hs0.b kx1
 have mx2_0 := c_ hs0.b kx2
 have mx3_0 := c_ hs0.b kx3
 have my1_0 := c_ hs0.b ky1
 have my2_0 := c_ hs0.b ky2
 have my3_0 := c_ hs0.b ky3
 clear ST ht hb hpo hz hr hcs rx kx1 kx2 kx3 ix qx ry ky1 ky2 ky3 iy qy
 rw [hk] at hs0 y0_0 y1_0 y2_0 mx1_0 mx2_0 mx3_0 my1_0 my2_0 my3_0 ⊢
 generalize hnt : n.text = ntx at *
 generalize x.kind = xk at *
 generalize x.text = xt at *
 generalize y.kind = yk at *
 generalize y.text = yt at *
 go_enter Tryz.func21, Tryz.ntmps21
 go_wp2
 go_region_held3 (fun w' => w'.cell? ⟨b, o, none⟩ = some (.int .i64 xk) ∧ w'.cell? ⟨b, o + 1, none⟩ = some (.string xt) ∧ w'.cell? ⟨b, o + 2, none⟩ = some (.slice ax x.kids.length cx) ∧ w'.cell? ⟨b, o + 3, none⟩ = some (.int .i64 yk) ∧ w'.cell? ⟨b, o + 3 + 1, none⟩ = some (.string yt) ∧ w'.cell? ⟨b, o + 3 + 2, none⟩ = some (.slice ay y.kids.length cy))
   (first | (exact ⟨mx1_1, mx2_1, mx3_1, my1_1, my2_1, my3_1⟩) | (exact ⟨mx1_0, mx2_0, mx3_0, my1_0, my2_0, my3_0⟩))
   (first | (go_at_call 35; refine (u_ C1 _ _ (by first | exact hs0.drew | exact hs0)).mono ?_; rintro e w1 ⟨rfl, ov1, hs1⟩; have y0_1 := hs1.c0; have y1_1 := hs1.c1; have y2_1 := hs1.c2; rw [u_ HK] at y0_1; rw [hnt] at y1_1; have mx1_1 := c_ hs1.b (u_ HKx1); have mx2_1 := c_ hs1.b (u_ HKx2); have mx3_1 := c_ hs1.b (u_ HKx3); have my1_1 := c_ hs1.b (u_ HKy1); have my2_1 := c_ hs1.b (u_ HKy2); have my3_1 := c_ hs1.b (u_ HKy3)))
 all_goals
   go_wp2
   exact e21 rfl ⟨rfl, ov1, hs1.po, hs1.pr⟩
theorem sp28 (n : Nd) (x : Nd) (y : Nd) (hk : n.kind = 28) (hks : n.kids = [x, y]) (ix : SpC x) (qx : fmP x) (iy : SpC y) (qy : fmP y) : ST 21 n (fun T => T ++ (tk x ++ [[60, 61]] ++ tk y ++ [[59]])) := by
 intro v W0 w pb T ov ht hr hb hp hpo hz
 dsimp only at hz ⊢
 have hl := len_okP hr
 rcases RdK_cases hr with ⟨h0, _⟩ | ⟨b, o, c, vs, hv, hn, hcs⟩
 · rw [hks] at h0; cases h0
 subst hv
 have hcap := RdK_cap hr
 obtain ⟨kx1, kx2, kx3, tx, rx⟩ := hcs 0 x (by rw [hks]; rfl)
 obtain ⟨ax, cx, hvx⟩ := RdK_slice rx
 rw [hvx] at kx3 rx
 obtain ⟨ky1, ky2, ky3, ty, ry⟩ := hcs 1 y (by rw [hks]; rfl)
 obtain ⟨ay, cy, hvy⟩ := RdK_slice ry
 rw [hvy] at ky3 ry
 simp only [Nat.zero_mul, Nat.add_zero, Nat.one_mul] at kx1 kx2 kx3 ky1 ky2 ky3
 rw [hks] at hcap hr
 have hlen : n.kids.length = 2 := by rw [hks]; rfl
 rw [hlen]
 have ST := h_ (Stt.start (n := n) (nv := .slice (some ⟨b, o, none⟩) 2 c) hb hpo 30)
 have C1 : Hid (SC W0 pb n (.slice (some ⟨b, o, none⟩) 2 c) w ov 35 [.agg #[.int .i64 x.kind, .string x.text, .slice ax x.kids.length cx], .string ⟨#[60, 61]⟩, .agg #[.int .i64 y.kind, .string y.text, .slice ay y.kids.length cy]] (T) (T ++ (tk x ++ [[60, 61]] ++ tk y ++ [[59]]))) := h_ (stt_two hp ix qx tx rx iy qy ty ry ⟨#[60, 61]⟩ [60, 61] rfl hz)
 have HKx1 := h_ kx1
 have HKx2 := h_ kx2
 have HKx3 := h_ kx3
 have HKy1 := h_ ky1
 have HKy2 := h_ ky2
 have HKy3 := h_ ky3
 unfold ndV
 have HK := h_ hk
 have hs0 := u_ ST
 have y0_0 := hs0.c0
 have y1_0 := hs0.c1
 have y2_0 := hs0.c2
 have mx1_0 := c_ hs0.b kx1
 have mx2_0 := c_ hs0.b kx2
 have mx3_0 := c_ hs0.b kx3
 have my1_0 := c_ hs0.b ky1
 have my2_0 := c_ hs0.b ky2
 have my3_0 := c_ hs0.b ky3
 clear ST ht hb hpo hz hr hcs rx kx1 kx2 kx3 ix qx ry ky1 ky2 ky3 iy qy
 rw [hk] at hs0 y0_0 y1_0 y2_0 mx1_0 mx2_0 mx3_0 my1_0 my2_0 my3_0 ⊢
 generalize hnt : n.text = ntx at *
 generalize x.kind = xk at *
 generalize x.text = xt at *
 generalize y.kind = yk at *
 generalize y.text = yt at *
 go_enter Tryz.func21, Tryz.ntmps21
 go_wp2
 go_region_held3 (fun w' => w'.cell? ⟨b, o, none⟩ = some (.int .i64 xk) ∧ w'.cell? ⟨b, o + 1, none⟩ = some (.string xt) ∧ w'.cell? ⟨b, o + 2, none⟩ = some (.slice ax x.kids.length cx) ∧ w'.cell? ⟨b, o + 3, none⟩ = some (.int .i64 yk) ∧ w'.cell? ⟨b, o + 3 + 1, none⟩ = some (.string yt) ∧ w'.cell? ⟨b, o + 3 + 2, none⟩ = some (.slice ay y.kids.length cy))
   (first | (exact ⟨mx1_1, mx2_1, mx3_1, my1_1, my2_1, my3_1⟩) | (exact ⟨mx1_0, mx2_0, mx3_0, my1_0, my2_0, my3_0⟩))
   (first | (go_at_call 35; refine (u_ C1 _ _ (by first | exact hs0.drew | exact hs0)).mono ?_; rintro e w1 ⟨rfl, ov1, hs1⟩; have y0_1 := hs1.c0; have y1_1 := hs1.c1; have y2_1 := hs1.c2; rw [u_ HK] at y0_1; rw [hnt] at y1_1; have mx1_1 := c_ hs1.b (u_ HKx1); have mx2_1 := c_ hs1.b (u_ HKx2); have mx3_1 := c_ hs1.b (u_ HKx3); have my1_1 := c_ hs1.b (u_ HKy1); have my2_1 := c_ hs1.b (u_ HKy2); have my3_1 := c_ hs1.b (u_ HKy3)))
 all_goals
   go_wp2
   exact e21 rfl ⟨rfl, ov1, hs1.po, hs1.pr⟩
theorem sp8b (n : Nd) (x : Nd) (hk : n.kind = 8) (hks : n.kids = [x]) (ix : SpC x) (qx : fmP x) (hA : L n.text = []) : ST 21 n (fun T => T ++ ([[91]] ++ joinT [] (([x]).map tk) ++ [[93]])) := by
 intro v W0 w pb T ov ht hr hb hp hpo hz
 dsimp only at hz ⊢
 have hl := len_okP hr
 rcases RdK_cases hr with ⟨h0, _⟩ | ⟨b, o, c, vs, hv, hn, hcs⟩
 · rw [hks] at h0; cases h0
 subst hv
 have hcap := RdK_cap hr
 obtain ⟨kx1, kx2, kx3, tx, rx⟩ := hcs 0 x (by rw [hks]; rfl)
 obtain ⟨ax, cx, hvx⟩ := RdK_slice rx
 rw [hvx] at kx3 rx
 simp only [Nat.zero_mul, Nat.add_zero] at kx1 kx2 kx3
 rw [hks] at hcap hr
 have hlen : n.kids.length = 1 := by rw [hks]; rfl
 rw [hlen]
 have ST := h_ (Stt.start (n := n) (nv := .slice (some ⟨b, o, none⟩) 1 c) hb hpo 30)
 have C1 : Hid (SC W0 pb n (.slice (some ⟨b, o, none⟩) 1 c) w ov 34 [.string ⟨#[91]⟩, .slice (some ⟨b, o, none⟩) 1 c, .string ⟨#[]⟩, .string ⟨#[93]⟩] (T) (T ++ ([[91]] ++ joinT [] (([x]).map tk) ++ [[93]]))) := h_ (stt_around hp (fun z hz => by simp only [List.mem_cons, List.mem_nil_iff, or_false] at hz; subst hz; assumption) (fun z hz => by simp only [List.mem_cons, List.mem_nil_iff, or_false] at hz; subst hz; assumption) ⟨#[91]⟩ ⟨#[]⟩ ⟨#[93]⟩ [91] [] [93] rfl rfl rfl hr hz)
 have HKx1 := h_ kx1
 have HKx2 := h_ kx2
 have HKx3 := h_ kx3
 have htx : n.text.toList.isEmpty = true := by rw [toLL, hA]; rfl
 unfold ndV
 have HK := h_ hk
 have hs0 := u_ ST
 have y0_0 := hs0.c0
 have y1_0 := hs0.c1
 have y2_0 := hs0.c2
 have mx1_0 := c_ hs0.b kx1
 have mx2_0 := c_ hs0.b kx2
 have mx3_0 := c_ hs0.b kx3
 clear ST ht hb hpo hz hr hcs rx kx1 kx2 kx3 ix qx
 rw [hk] at hs0 y0_0 y1_0 y2_0 mx1_0 mx2_0 mx3_0 ⊢
 generalize hnt : n.text = ntx at *
 generalize x.kind = xk at *
 generalize x.text = xt at *
 go_enter Tryz.func21, Tryz.ntmps21
 go_wp2_with (first
   | (go_at_call 34; refine (u_ C1 _ _ hs0).mono ?_; rintro e w1 ⟨rfl, ov1, hs1⟩))
 exact e21 rfl ⟨rfl, ov1, hs1.po, hs1.pr⟩
theorem sp8c (n : Nd) (hk : n.kind = 8) (hks : n.kids = [])  (hA : L n.text ≠ []) : ST 21 n (fun T => T ++ [L n.text]) := by
 intro v W0 w pb T ov ht hr hb hp hpo hz
 dsimp only at hz ⊢
 have hl := len_okP hr
 obtain ⟨a0, c0, hv0⟩ := RdK_slice hr
 have HR := h_ hr
 subst hv0
 have hlen : n.kids.length = 0 := by rw [hks]; rfl
 rw [hlen]
 have ST := h_ (Stt.start (n := n) (nv := .slice a0 0 c0) hb hpo 30)
 have C1 : Hid (SC W0 pb n (.slice a0 0 c0) w ov 20 [.string n.text] (T) (T ++ [L n.text])) := h_ (stt_put hp n.text (L n.text) rfl hz)
 have htx : n.text.toList.isEmpty = false := by rw [toLL]; cases h : L n.text with | nil => exact absurd h hA | cons => rfl
 unfold ndV
 have HK := h_ hk
 have hs0 := u_ ST
 have y0_0 := hs0.c0
 have y1_0 := hs0.c1
 have y2_0 := hs0.c2
 clear ST ht hb hpo hz hr
 rw [hk] at hs0 y0_0 y1_0 y2_0  ⊢
 generalize hnt : n.text = ntx at *
 go_enter Tryz.func21, Tryz.ntmps21
 go_wp2_with (first
   | (go_at_call_of 20 (Value.string ntx); refine (u_ C1 _ _ hs0).mono ?_; rintro e w1 ⟨rfl, ov1, hs1⟩))
 exact e21 rfl ⟨rfl, ov1, hs1.po, hs1.pr⟩
theorem sp8d (n : Nd) (x : Nd) (hk : n.kind = 8) (hks : n.kids = [x]) (ix : SpC x) (qx : fmP x) (hA : L n.text ≠ []) : ST 21 n (fun T => T ++ [L n.text] ++ ([[91]] ++ joinT [] (([x]).map tk) ++ [[93]])) := by
 intro v W0 w pb T ov ht hr hb hp hpo hz
 dsimp only at hz ⊢
 have hl := len_okP hr
 rcases RdK_cases hr with ⟨h0, _⟩ | ⟨b, o, c, vs, hv, hn, hcs⟩
 · rw [hks] at h0; cases h0
 subst hv
 have hcap := RdK_cap hr
 obtain ⟨kx1, kx2, kx3, tx, rx⟩ := hcs 0 x (by rw [hks]; rfl)
 obtain ⟨ax, cx, hvx⟩ := RdK_slice rx
 rw [hvx] at kx3 rx
 simp only [Nat.zero_mul, Nat.add_zero] at kx1 kx2 kx3
 rw [hks] at hcap hr
 have hlen : n.kids.length = 1 := by rw [hks]; rfl
 rw [hlen]
 have ST := h_ (Stt.start (n := n) (nv := .slice (some ⟨b, o, none⟩) 1 c) hb hpo 30)
 have C1 : Hid (SC W0 pb n (.slice (some ⟨b, o, none⟩) 1 c) w ov 20 [.string n.text] (T) (T ++ [L n.text])) := h_ (stt_put hp n.text (L n.text) rfl (by simp only [sizeT_app] at hz ⊢; omega))
 have C2 : Hid (SC W0 pb n (.slice (some ⟨b, o, none⟩) 1 c) w ov 34 [.string ⟨#[91]⟩, .slice (some ⟨b, o, none⟩) 1 c, .string ⟨#[]⟩, .string ⟨#[93]⟩] (T ++ [L n.text]) (T ++ [L n.text] ++ ([[91]] ++ joinT [] (([x]).map tk) ++ [[93]]))) := h_ (stt_around hp (fun z hz => by simp only [List.mem_cons, List.mem_nil_iff, or_false] at hz; subst hz; assumption) (fun z hz => by simp only [List.mem_cons, List.mem_nil_iff, or_false] at hz; subst hz; assumption) ⟨#[91]⟩ ⟨#[]⟩ ⟨#[93]⟩ [91] [] [93] rfl rfl rfl hr hz)
 have HKx1 := h_ kx1
 have HKx2 := h_ kx2
 have HKx3 := h_ kx3
 have htx : n.text.toList.isEmpty = false := by rw [toLL]; cases h : L n.text with | nil => exact absurd h hA | cons => rfl
 unfold ndV
 have HK := h_ hk
 have hs0 := u_ ST
 have y0_0 := hs0.c0
 have y1_0 := hs0.c1
 have y2_0 := hs0.c2
 have mx1_0 := c_ hs0.b kx1
 have mx2_0 := c_ hs0.b kx2
 have mx3_0 := c_ hs0.b kx3
 clear ST ht hb hpo hz hr hcs rx kx1 kx2 kx3 ix qx
 rw [hk] at hs0 y0_0 y1_0 y2_0 mx1_0 mx2_0 mx3_0 ⊢
 generalize hnt : n.text = ntx at *
 generalize x.kind = xk at *
 generalize x.text = xt at *
 go_enter Tryz.func21, Tryz.ntmps21
 go_wp2_with (first
   | (go_at_call 34; refine (u_ C2 _ _ hs1).mono ?_; rintro e w2 ⟨rfl, ov2, hs2⟩)
   | (go_at_call_of 20 (Value.string ntx); refine (u_ C1 _ _ hs0).mono ?_; rintro e w1 ⟨rfl, ov1, hs1⟩; have y2_1 := hs1.c2))
 exact e21 rfl ⟨rfl, ov2, hs2.po, hs2.pr⟩
theorem sp3b (n : Nd) (hk : n.kind = 3) (ih : ∀ x ∈ n.kids, SpC x) (hf : ∀ x ∈ n.kids, fmP x) (hne : n.kids ≠ []) : ST 21 n (fun T => T ++ [[35]] ++ ([[40]] ++ joinT [44] ((n.kids).map tk) ++ [[41]])) := by
 intro v W0 w pb T ov ht hr hb hp hpo hz
 dsimp only at hz ⊢
 have hl := len_okP hr
 obtain ⟨a0, c0, hv0⟩ := RdK_slice hr
 have HR := h_ hr
 subst hv0
 have ST := h_ (Stt.start (n := n) (nv := .slice a0 n.kids.length c0) hb hpo 30)
 have C1 : Hid (SC W0 pb n (.slice a0 n.kids.length c0) w ov 20 [.string ⟨#[35]⟩] (T) (T ++ [[35]])) := h_ (stt_put hp ⟨#[35]⟩ [35] rfl (by simp only [sizeT_app] at hz ⊢; omega))
 have C2 : Hid (SC W0 pb n (.slice a0 n.kids.length c0) w ov 34 [.string ⟨#[40]⟩, .slice a0 n.kids.length c0, .string ⟨#[44]⟩, .string ⟨#[41]⟩] (T ++ [[35]]) (T ++ [[35]] ++ ([[40]] ++ joinT [44] ((n.kids).map tk) ++ [[41]]))) := h_ (stt_around hp ih hf ⟨#[40]⟩ ⟨#[44]⟩ ⟨#[41]⟩ [40] [44] [41] rfl rfl rfl hr hz)
 have hlp : (0 : Int) < n.kids.length := by cases h : n.kids with | nil => exact absurd h hne | cons => simp
 unfold ndV
 have HK := h_ hk
 have hs0 := u_ ST
 have y0_0 := hs0.c0
 have y1_0 := hs0.c1
 have y2_0 := hs0.c2
 clear ST ht hb hpo hz hr
 rw [hk] at hs0 y0_0 y1_0 y2_0  ⊢
 generalize hnt : n.text = ntx at *
 go_enter Tryz.func21, Tryz.ntmps21
 go_wp2_with (first
   | (go_at_call 34; refine (u_ C2 _ _ hs1).mono ?_; rintro e w2 ⟨rfl, ov2, hs2⟩)
   | (go_at_call_of 20 (Value.string ⟨#[35]⟩); refine (u_ C1 _ _ hs0).mono ?_; rintro e w1 ⟨rfl, ov1, hs1⟩; have y2_1 := hs1.c2))
 exact e21 rfl ⟨rfl, ov2, hs2.po, hs2.pr⟩
theorem sp22 (n : Nd) (x : Nd) (y : Nd) (z : Nd) (hk : n.kind = 22) (hks : n.kids = [x, y, z]) (ix : SpC x) (qx : fmP x) (iy : SpC y) (qy : fmP y)  (gz : ∀ u ∈ z.kids, SpC u) (fz : ∀ u ∈ z.kids, fmP u) : ST 21 n (fun T => T ++ [[117, 115, 101]] ++ [L n.text] ++ tk x ++ tk y ++ ([[40]] ++ joinT [44] ((z.kids).map tk) ++ [[41]]) ++ [[59]]) := by
 intro v W0 w pb T ov ht hr hb hp hpo hz
 dsimp only at hz ⊢
 have hl := len_okP hr
 rcases RdK_cases hr with ⟨h0, _⟩ | ⟨b, o, c, vs, hv, hn, hcs⟩
 · rw [hks] at h0; cases h0
 subst hv
 have hcap := RdK_cap hr
 obtain ⟨kx1, kx2, kx3, tx, rx⟩ := hcs 0 x (by rw [hks]; rfl)
 obtain ⟨ax, cx, hvx⟩ := RdK_slice rx
 rw [hvx] at kx3 rx
 obtain ⟨ky1, ky2, ky3, ty, ry⟩ := hcs 1 y (by rw [hks]; rfl)
 obtain ⟨ay, cy, hvy⟩ := RdK_slice ry
 rw [hvy] at ky3 ry
 obtain ⟨kz1, kz2, kz3, tz, rz⟩ := hcs 2 z (by rw [hks]; rfl)
 obtain ⟨az, cz, hvz⟩ := RdK_slice rz
 rw [hvz] at kz3 rz
 simp only [Nat.zero_mul, Nat.add_zero, Nat.one_mul] at kx1 kx2 kx3 ky1 ky2 ky3 kz1 kz2 kz3
 rw [hks] at hcap hr
 have hlen : n.kids.length = 3 := by rw [hks]; rfl
 rw [hlen]
 have ST := h_ (Stt.start (n := n) (nv := .slice (some ⟨b, o, none⟩) 3 c) hb hpo 30)
 have C1 : Hid (SC W0 pb n (.slice (some ⟨b, o, none⟩) 3 c) w ov 20 [.string ⟨#[117, 115, 101]⟩] (T) (T ++ [[117, 115, 101]])) := h_ (stt_put hp ⟨#[117, 115, 101]⟩ [117, 115, 101] rfl (by simp only [sizeT_app] at hz ⊢; omega))
 have C2 : Hid (SC W0 pb n (.slice (some ⟨b, o, none⟩) 3 c) w ov 20 [.string n.text] (T ++ [[117, 115, 101]]) (T ++ [[117, 115, 101]] ++ [L n.text])) := h_ (stt_put hp n.text (L n.text) rfl (by simp only [sizeT_app] at hz ⊢; omega))
 have C3 : Hid (SC W0 pb n (.slice (some ⟨b, o, none⟩) 3 c) w ov 21 [.agg #[.int .i64 x.kind, .string x.text, .slice ax x.kids.length cx]] (T ++ [[117, 115, 101]] ++ [L n.text]) (T ++ [[117, 115, 101]] ++ [L n.text] ++ tk x)) := h_ (stt_node hp ix qx tx rx (by simp only [sizeT_app] at hz ⊢; omega))
 have C4 : Hid (SC W0 pb n (.slice (some ⟨b, o, none⟩) 3 c) w ov 21 [.agg #[.int .i64 y.kind, .string y.text, .slice ay y.kids.length cy]] (T ++ [[117, 115, 101]] ++ [L n.text] ++ tk x) (T ++ [[117, 115, 101]] ++ [L n.text] ++ tk x ++ tk y)) := h_ (stt_node hp iy qy ty ry (by simp only [sizeT_app] at hz ⊢; omega))
 have C5 : Hid (SC W0 pb n (.slice (some ⟨b, o, none⟩) 3 c) w ov 34 [.string ⟨#[40]⟩, .slice az z.kids.length cz, .string ⟨#[44]⟩, .string ⟨#[41]⟩] (T ++ [[117, 115, 101]] ++ [L n.text] ++ tk x ++ tk y) (T ++ [[117, 115, 101]] ++ [L n.text] ++ tk x ++ tk y ++ ([[40]] ++ joinT [44] ((z.kids).map tk) ++ [[41]]))) := h_ (stt_around hp gz fz ⟨#[40]⟩ ⟨#[44]⟩ ⟨#[41]⟩ [40] [44] [41] rfl rfl rfl rz (by simp only [sizeT_app] at hz ⊢; omega))
 have C6 : Hid (SC W0 pb n (.slice (some ⟨b, o, none⟩) 3 c) w ov 20 [.string ⟨#[59]⟩] (T ++ [[117, 115, 101]] ++ [L n.text] ++ tk x ++ tk y ++ ([[40]] ++ joinT [44] ((z.kids).map tk) ++ [[41]])) (T ++ [[117, 115, 101]] ++ [L n.text] ++ tk x ++ tk y ++ ([[40]] ++ joinT [44] ((z.kids).map tk) ++ [[41]]) ++ [[59]])) := h_ (stt_put hp ⟨#[59]⟩ [59] rfl hz)
 have HKx1 := h_ kx1
 have HKx2 := h_ kx2
 have HKx3 := h_ kx3
 have HKy1 := h_ ky1
 have HKy2 := h_ ky2
 have HKy3 := h_ ky3
 have HKz1 := h_ kz1
 have HKz2 := h_ kz2
 have HKz3 := h_ kz3
 unfold ndV
 have HK := h_ hk
 have hs0 := u_ ST
 have y0_0 := hs0.c0
 have y1_0 := hs0.c1
 have y2_0 := hs0.c2
 have mx1_0 := c_ hs0.b kx1
 have mx2_0 := c_ hs0.b kx2
 have mx3_0 := c_ hs0.b kx3
 have my1_0 := c_ hs0.b ky1
 have my2_0 := c_ hs0.b ky2
 have my3_0 := c_ hs0.b ky3
 have mz1_0 := c_ hs0.b kz1
 have mz2_0 := c_ hs0.b kz2
 have mz3_0 := c_ hs0.b kz3
 clear ST ht hb hpo hz hr hcs rx kx1 kx2 kx3 ix qx ry ky1 ky2 ky3 iy qy rz kz1 kz2 kz3
 rw [hk] at hs0 y0_0 y1_0 y2_0 mx1_0 mx2_0 mx3_0 my1_0 my2_0 my3_0 mz1_0 mz2_0 mz3_0 ⊢
 generalize hnt : n.text = ntx at *
 generalize x.kind = xk at *
 generalize x.text = xt at *
 generalize y.kind = yk at *
 generalize y.text = yt at *
 generalize z.kind = zk at *
 generalize z.text = zt at *
 go_enter Tryz.func21, Tryz.ntmps21
 go_wp2_with (first
   | (go_at_call_of 20 (Value.string ⟨#[59]⟩); refine (u_ C6 _ _ (by first | exact hs5 | exact hs5.alloc _)).mono ?_; rintro e w6 ⟨rfl, ov6, hs6⟩; have y0_6 := hs6.c0; have y1_6 := hs6.c1; have y2_6 := hs6.c2; rw [u_ HK] at y0_6; rw [hnt] at y1_6; have mx1_6 := c_ hs6.b (u_ HKx1); have mx2_6 := c_ hs6.b (u_ HKx2); have mx3_6 := c_ hs6.b (u_ HKx3); have my1_6 := c_ hs6.b (u_ HKy1); have my2_6 := c_ hs6.b (u_ HKy2); have my3_6 := c_ hs6.b (u_ HKy3); have mz1_6 := c_ hs6.b (u_ HKz1); have mz2_6 := c_ hs6.b (u_ HKz2); have mz3_6 := c_ hs6.b (u_ HKz3))
   | (go_at_call 34; refine (u_ C5 _ _ (by first | exact hs4 | exact hs4.alloc _)).mono ?_; rintro e w5 ⟨rfl, ov5, hs5⟩; have y0_5 := hs5.c0; have y1_5 := hs5.c1; have y2_5 := hs5.c2; rw [u_ HK] at y0_5; rw [hnt] at y1_5; have mx1_5 := c_ hs5.b (u_ HKx1); have mx2_5 := c_ hs5.b (u_ HKx2); have mx3_5 := c_ hs5.b (u_ HKx3); have my1_5 := c_ hs5.b (u_ HKy1); have my2_5 := c_ hs5.b (u_ HKy2); have my3_5 := c_ hs5.b (u_ HKy3); have mz1_5 := c_ hs5.b (u_ HKz1); have mz2_5 := c_ hs5.b (u_ HKz2); have mz3_5 := c_ hs5.b (u_ HKz3))
   | (go_at_call_of 21 (Value.agg #[Value.int IntKind.i64 yk, Value.string yt, Value.slice ay y.kids.length cy]); refine (u_ C4 _ _ (by first | exact hs3 | exact hs3.alloc _)).mono ?_; rintro e w4 ⟨rfl, ov4, hs4⟩; have y0_4 := hs4.c0; have y1_4 := hs4.c1; have y2_4 := hs4.c2; rw [u_ HK] at y0_4; rw [hnt] at y1_4; have mx1_4 := c_ hs4.b (u_ HKx1); have mx2_4 := c_ hs4.b (u_ HKx2); have mx3_4 := c_ hs4.b (u_ HKx3); have my1_4 := c_ hs4.b (u_ HKy1); have my2_4 := c_ hs4.b (u_ HKy2); have my3_4 := c_ hs4.b (u_ HKy3); have mz1_4 := c_ hs4.b (u_ HKz1); have mz2_4 := c_ hs4.b (u_ HKz2); have mz3_4 := c_ hs4.b (u_ HKz3))
   | (go_at_call_of 21 (Value.agg #[Value.int IntKind.i64 xk, Value.string xt, Value.slice ax x.kids.length cx]); refine (u_ C3 _ _ (by first | exact hs2 | exact hs2.alloc _)).mono ?_; rintro e w3 ⟨rfl, ov3, hs3⟩; have y0_3 := hs3.c0; have y1_3 := hs3.c1; have y2_3 := hs3.c2; rw [u_ HK] at y0_3; rw [hnt] at y1_3; have mx1_3 := c_ hs3.b (u_ HKx1); have mx2_3 := c_ hs3.b (u_ HKx2); have mx3_3 := c_ hs3.b (u_ HKx3); have my1_3 := c_ hs3.b (u_ HKy1); have my2_3 := c_ hs3.b (u_ HKy2); have my3_3 := c_ hs3.b (u_ HKy3); have mz1_3 := c_ hs3.b (u_ HKz1); have mz2_3 := c_ hs3.b (u_ HKz2); have mz3_3 := c_ hs3.b (u_ HKz3))
   | (go_at_call_of 20 (Value.string ntx); refine (u_ C2 _ _ (by first | exact hs1 | exact hs1.alloc _)).mono ?_; rintro e w2 ⟨rfl, ov2, hs2⟩; have y0_2 := hs2.c0; have y1_2 := hs2.c1; have y2_2 := hs2.c2; rw [u_ HK] at y0_2; rw [hnt] at y1_2; have mx1_2 := c_ hs2.b (u_ HKx1); have mx2_2 := c_ hs2.b (u_ HKx2); have mx3_2 := c_ hs2.b (u_ HKx3); have my1_2 := c_ hs2.b (u_ HKy1); have my2_2 := c_ hs2.b (u_ HKy2); have my3_2 := c_ hs2.b (u_ HKy3); have mz1_2 := c_ hs2.b (u_ HKz1); have mz2_2 := c_ hs2.b (u_ HKz2); have mz3_2 := c_ hs2.b (u_ HKz3))
   | (go_at_call_of 20 (Value.string ⟨#[117, 115, 101]⟩); refine (u_ C1 _ _ (by first | exact hs0 | exact hs0.alloc _)).mono ?_; rintro e w1 ⟨rfl, ov1, hs1⟩; have y0_1 := hs1.c0; have y1_1 := hs1.c1; have y2_1 := hs1.c2; rw [u_ HK] at y0_1; rw [hnt] at y1_1; have mx1_1 := c_ hs1.b (u_ HKx1); have mx2_1 := c_ hs1.b (u_ HKx2); have mx3_1 := c_ hs1.b (u_ HKx3); have my1_1 := c_ hs1.b (u_ HKy1); have my2_1 := c_ hs1.b (u_ HKy2); have my3_1 := c_ hs1.b (u_ HKy3); have mz1_1 := c_ hs1.b (u_ HKz1); have mz2_1 := c_ hs1.b (u_ HKz2); have mz3_1 := c_ hs1.b (u_ HKz3)))
 exact e21 rfl ⟨rfl, ov6, hs6.po, hs6.pr⟩
theorem sp30a (n : Nd) (x : Nd) (r : List Nd) (hk : n.kind = 30) (hks : n.kids = x :: r) (ihr : ∀ z ∈ r, SpC z) (hfr : ∀ z ∈ r, fmP z) (ix : SpC x) (qx : fmP x) (hrne : r ≠ []) : ST 21 n (fun T => T ++ [[99, 97, 115, 101]] ++ tk x ++ ([[123]] ++ joinT [] ((r).map tk) ++ [[125]])) := by
 intro v W0 w pb T ov ht hr hb hp hpo hz
 dsimp only at hz ⊢
 have hl := len_okP hr
 rcases RdK_cases hr with ⟨h0, _⟩ | ⟨b, o, c, vs, hv, hn, hcs⟩
 · rw [hks] at h0; cases h0
 subst hv
 have hcap := RdK_cap hr
 obtain ⟨kx1, kx2, kx3, tx, rx⟩ := hcs 0 x (by rw [hks]; rfl)
 obtain ⟨ax, cx, hvx⟩ := RdK_slice rx
 rw [hvx] at kx3 rx
 simp only [Nat.zero_mul, Nat.add_zero] at kx1 kx2 kx3
 rw [hks] at hcap hr
 have hlen : n.kids.length = (r.length + 1) := by rw [hks]; rfl
 rw [hlen]
 have hrl : 1 ≤ r.length := by cases r with | nil => exact absurd rfl hrne | cons => simp
 have hrr : RdK W0 r (.slice (some ⟨b, o + 3, none⟩) r.length (c - 1)) := by
   have := RdK_drop hr 1 (by simp) (c - 1) (by simp at hcap ⊢; omega)
   simpa using this
 have hc1 : ¬ c = 1 := by simp at hcap; omega
 have hc2 : r.length + 1 ≤ c := by simpa using hcap
 have hln : r.length + 1 ≤ 9223372036854775807 := by rw [hks] at hl; simpa using hl
 have ST := h_ (Stt.start (n := n) (nv := .slice (some ⟨b, o, none⟩) (r.length + 1) c) hb hpo 30)
 have C1 : Hid (SC W0 pb n (.slice (some ⟨b, o, none⟩) (r.length + 1) c) w ov 20 [.string ⟨#[99, 97, 115, 101]⟩] (T) (T ++ [[99, 97, 115, 101]])) := h_ (stt_put hp ⟨#[99, 97, 115, 101]⟩ [99, 97, 115, 101] rfl (by simp only [sizeT_app] at hz ⊢; omega))
 have C2 : Hid (SC W0 pb n (.slice (some ⟨b, o, none⟩) (r.length + 1) c) w ov 21 [.agg #[.int .i64 x.kind, .string x.text, .slice ax x.kids.length cx]] (T ++ [[99, 97, 115, 101]]) (T ++ [[99, 97, 115, 101]] ++ tk x)) := h_ (stt_node hp ix qx tx rx (by simp only [sizeT_app] at hz ⊢; omega))
 have C3 : Hid (SC W0 pb n (.slice (some ⟨b, o, none⟩) (r.length + 1) c) w ov 34 [.string ⟨#[123]⟩, .slice (some ⟨b, o + 3, none⟩) r.length (c - 1), .string ⟨#[]⟩, .string ⟨#[125]⟩] (T ++ [[99, 97, 115, 101]] ++ tk x) (T ++ [[99, 97, 115, 101]] ++ tk x ++ ([[123]] ++ joinT [] ((r).map tk) ++ [[125]]))) := h_ (stt_around hp ihr hfr ⟨#[123]⟩ ⟨#[]⟩ ⟨#[125]⟩ [123] [] [125] rfl rfl rfl hrr hz)
 have HKx1 := h_ kx1
 have HKx2 := h_ kx2
 have HKx3 := h_ kx3
 unfold ndV
 have HK := h_ hk
 have hs0 := u_ ST
 have y0_0 := hs0.c0
 have y1_0 := hs0.c1
 have y2_0 := hs0.c2
 have mx1_0 := c_ hs0.b kx1
 have mx2_0 := c_ hs0.b kx2
 have mx3_0 := c_ hs0.b kx3
 clear ST ht hb hpo hz hr hcs  ihr hfr rx kx1 kx2 kx3 ix qx
 rw [hk] at hs0 y0_0 y1_0 y2_0 mx1_0 mx2_0 mx3_0 ⊢
 generalize hnt : n.text = ntx at *
 generalize x.kind = xk at *
 generalize x.text = xt at *
 go_enter Tryz.func21, Tryz.ntmps21
 go_wp2_with (first
   | (go_at_call 34; refine (u_ C3 _ _ hs2).mono ?_; rintro e w3 ⟨rfl, ov3, hs3⟩)
   | (go_at_call_of 21 (Value.agg #[Value.int IntKind.i64 xk, Value.string xt, Value.slice ax x.kids.length cx]); refine (u_ C2 _ _ hs1).mono ?_; rintro e w2 ⟨rfl, ov2, hs2⟩; have y2_2 := hs2.c2)
   | (go_at_call_of 20 (Value.string ⟨#[99, 97, 115, 101]⟩); refine (u_ C1 _ _ hs0).mono ?_; rintro e w1 ⟨rfl, ov1, hs1⟩; have y2_1 := hs1.c2; have mx1_1 := c_ hs1.b (u_ HKx1); have mx2_1 := c_ hs1.b (u_ HKx2); have mx3_1 := c_ hs1.b (u_ HKx3)))
 exact e21 rfl ⟨rfl, ov3, hs3.po, hs3.pr⟩
theorem sp30b (n : Nd) (x : Nd) (hk : n.kind = 30) (hks : n.kids = [x]) (ix : SpC x) (qx : fmP x) : ST 21 n (fun T => T ++ [[99, 97, 115, 101]] ++ tk x ++ ([[123]] ++ joinT [] ((([] : List Nd)).map tk) ++ [[125]])) := by
 intro v W0 w pb T ov ht hr hb hp hpo hz
 dsimp only at hz ⊢
 have hl := len_okP hr
 rcases RdK_cases hr with ⟨h0, _⟩ | ⟨b, o, c, vs, hv, hn, hcs⟩
 · rw [hks] at h0; cases h0
 subst hv
 have hcap := RdK_cap hr
 obtain ⟨kx1, kx2, kx3, tx, rx⟩ := hcs 0 x (by rw [hks]; rfl)
 obtain ⟨ax, cx, hvx⟩ := RdK_slice rx
 rw [hvx] at kx3 rx
 simp only [Nat.zero_mul, Nat.add_zero] at kx1 kx2 kx3
 rw [hks] at hcap hr
 have hlen : n.kids.length = 1 := by rw [hks]; rfl
 rw [hlen]
 have hc1 : 1 ≤ c := by simpa using hcap
 have ST := h_ (Stt.start (n := n) (nv := .slice (some ⟨b, o, none⟩) 1 c) hb hpo 30)
 have C1 : Hid (SC W0 pb n (.slice (some ⟨b, o, none⟩) 1 c) w ov 20 [.string ⟨#[99, 97, 115, 101]⟩] (T) (T ++ [[99, 97, 115, 101]])) := h_ (stt_put hp ⟨#[99, 97, 115, 101]⟩ [99, 97, 115, 101] rfl (by simp only [sizeT_app] at hz ⊢; omega))
 have C2 : Hid (SC W0 pb n (.slice (some ⟨b, o, none⟩) 1 c) w ov 21 [.agg #[.int .i64 x.kind, .string x.text, .slice ax x.kids.length cx]] (T ++ [[99, 97, 115, 101]]) (T ++ [[99, 97, 115, 101]] ++ tk x)) := h_ (stt_node hp ix qx tx rx (by simp only [sizeT_app] at hz ⊢; omega))
 have C3 : Hid (∀ (a3 : Option Addr) (c3 : Nat) W ov', Stt W0 pb w.heap.size n (.slice (some ⟨b, o, none⟩) 1 c) w ov (T ++ [[99, 97, 115, 101]] ++ tk x) ov' W → Calls Tryz.prog 34 #[.pointer (some ⟨pb, 0, none⟩), .string ⟨#[123]⟩, .slice a3 0 c3, .string ⟨#[]⟩, .string ⟨#[125]⟩] W fun e w' => e = .returned (.tuple #[]) ∧ ∃ ov'', Stt W0 pb w.heap.size n (.slice (some ⟨b, o, none⟩) 1 c) w ov (T ++ [[99, 97, 115, 101]] ++ tk x ++ ([[123]] ++ joinT [] ((([] : List Nd)).map tk) ++ [[125]])) ov'' w') := h_ (fun a3 c3 => stt_around hp (fun _ h => by cases h) (fun _ h => by cases h) ⟨#[123]⟩ ⟨#[]⟩ ⟨#[125]⟩ [123] [] [125] rfl rfl rfl (.nil _ _) hz)
 have HKx1 := h_ kx1
 have HKx2 := h_ kx2
 have HKx3 := h_ kx3
 unfold ndV
 have HK := h_ hk
 have hs0 := u_ ST
 have y0_0 := hs0.c0
 have y1_0 := hs0.c1
 have y2_0 := hs0.c2
 have mx1_0 := c_ hs0.b kx1
 have mx2_0 := c_ hs0.b kx2
 have mx3_0 := c_ hs0.b kx3
 clear ST ht hb hpo hz hr hcs rx kx1 kx2 kx3 ix qx
 rw [hk] at hs0 y0_0 y1_0 y2_0 mx1_0 mx2_0 mx3_0 ⊢
 generalize hnt : n.text = ntx at *
 generalize x.kind = xk at *
 generalize x.text = xt at *
 go_enter Tryz.func21, Tryz.ntmps21
 go_wp2_with (first
   | (go_at_call 34; refine (u_ C3 _ _ _ _ hs2).mono ?_; rintro e w3 ⟨rfl, ov3, hs3⟩)
   | (go_at_call_of 21 (Value.agg #[Value.int IntKind.i64 xk, Value.string xt, Value.slice ax x.kids.length cx]); refine (u_ C2 _ _ hs1).mono ?_; rintro e w2 ⟨rfl, ov2, hs2⟩; have y2_2 := hs2.c2)
   | (go_at_call_of 20 (Value.string ⟨#[99, 97, 115, 101]⟩); refine (u_ C1 _ _ hs0).mono ?_; rintro e w1 ⟨rfl, ov1, hs1⟩; have y2_1 := hs1.c2; have mx1_1 := c_ hs1.b (u_ HKx1); have mx2_1 := c_ hs1.b (u_ HKx2); have mx3_1 := c_ hs1.b (u_ HKx3)))
 all_goals exact e21 rfl ⟨rfl, ov3, by first | exact hs3.po | (have := hs3.po; simpa using this), hs3.pr⟩
theorem sp8a (n : Nd) (v : Value) (W0 w : World) (pb : Nat) (T : List Tok) (ov : Value) (hr : RdK W0 n.kids v) (hb : Below W0.heap.size W0 w) (hpo : Po pb T ov w) (hk : n.kind = 8) (hks : n.kids = []) (hA : L n.text = []) :
   Calls Tryz.prog 21 #[.pointer (some ⟨pb, 0, none⟩), ndV n v] w fun e w' => e = .returned (.tuple #[]) ∧ ∃ ov', Po pb T ov' w' ∧ Pr pb ov ov' w w' := by
 have htx : n.text.toList.isEmpty = true := by rw [toLL, hA]; rfl
 have HPO := h_ hpo
 obtain ⟨a0, c0, rfl⟩ := RdK_slice hr
 unfold ndV
 rw [hk, hks]
 clear hr hpo
 generalize n.text = ntx at *
 go_enter Tryz.func21, Tryz.ntmps21
 go_wp2
 exact e21 rfl ⟨rfl, ov, (u_ HPO).alloc _, Pr.ofAlloc pb ov w _⟩
theorem sp3a (n : Nd) (v : Value) (W0 w : World) (pb : Nat) (T : List Tok) (ov : Value) (hr : RdK W0 n.kids v) (hb : Below W0.heap.size W0 w) (hpo : Po pb T ov w) (hk : n.kind = 3) (hks : n.kids = []) :
   Calls Tryz.prog 21 #[.pointer (some ⟨pb, 0, none⟩), ndV n v] w fun e w' => e = .returned (.tuple #[]) ∧ ∃ ov', Po pb T ov' w' ∧ Pr pb ov ov' w w' := by
 have HPO := h_ hpo
 obtain ⟨a0, c0, rfl⟩ := RdK_slice hr
 unfold ndV
 rw [hk, hks]
 clear hr hpo
 generalize n.text = ntx at *
 go_enter Tryz.func21, Tryz.ntmps21
 go_wp2
 exact e21 rfl ⟨rfl, ov, (u_ HPO).alloc _, Pr.ofAlloc pb ov w _⟩
set_option maxHeartbeats 800000 in
theorem sp31 (n : Nd) (y : Nd) (m : Nat) (v : Value) (W0 w : World) (pb : Nat) (T : List Tok) (ov : Value) (ht : n.text.size ≤ maxLen) (hr : RdK W0 n.kids v) (hb : Below W0.heap.size W0 w) (hp : W0.heap.size ≤ pb) (hpo : Po pb T ov w) (hz : sizeT (T ++ joinT [44] ((n.kids.take m).map tk) ++ [[58]] ++ tk y) ≤ 1099511627776) (hk : n.kind = 31) (hm : n.kids.length = m + 1) (hy : n.kids[m]? = some y) (ih : ∀ x ∈ n.kids, SpC x) (hf : ∀ x ∈ n.kids, fmP x) :
   Calls Tryz.prog 21 #[.pointer (some ⟨pb, 0, none⟩), ndV n v] w fun e w' => e = .returned (.tuple #[]) ∧ ∃ ov', Po pb (T ++ joinT [44] ((n.kids.take m).map tk) ++ [[58]] ++ tk y) ov' w' ∧ Pr pb ov ov' w w' := by
 rcases RdK_cases hr with ⟨h0, _⟩ | ⟨b, o, c, vs, hv, hn, hcs⟩
 · rw [h0] at hm; simp at hm
 subst hv
 have hcap := RdK_cap hr
 have iy := ih y (List.mem_of_getElem? hy)
 have qy := hf y (List.mem_of_getElem? hy)
 obtain ⟨ky1, ky2, ky3, ty, ry⟩ := hcs m y hy
 obtain ⟨ay, cy, hvy⟩ := RdK_slice ry
 rw [hvy] at ky3 ry
 have hrt := RdK_take hr m (by omega) c (by omega)
 rw [hm] at hcap hn ⊢
 unfold maxLen at hn
 have hmc : m ≤ c := by omega
 have ST := h_ (Stt.start (n := n) (nv := .slice (some ⟨b, o, none⟩) (m + 1) c) hb hpo 30)
 have C1 : Hid (∀ W ov', Stt W0 pb w.heap.size n (.slice (some ⟨b, o, none⟩) (m + 1) c) w ov T ov' W → Calls Tryz.prog 11 #[.pointer (some ⟨pb, 0, none⟩), .slice (some ⟨b, o, none⟩) m c, .string ⟨#[44]⟩] W fun e w' => e = .returned (.tuple #[]) ∧ ∃ ov'', Stt W0 pb w.heap.size n (.slice (some ⟨b, o, none⟩) (m + 1) c) w ov (T ++ joinT [44] ((n.kids.take m).map tk)) ov'' w') := h_ (stt_list hp (fun x hx => ih x (List.mem_of_mem_take hx)) (fun x hx => hf x (List.mem_of_mem_take hx)) ⟨#[44]⟩ [44] rfl hrt (by simp only [sizeT_app] at hz ⊢; omega))
 have C2 : Hid (∀ W ov', Stt W0 pb w.heap.size n (.slice (some ⟨b, o, none⟩) (m + 1) c) w ov (T ++ joinT [44] ((n.kids.take m).map tk)) ov' W → Calls Tryz.prog 20 #[.pointer (some ⟨pb, 0, none⟩), .string ⟨#[58]⟩] W fun e w' => e = .returned (.tuple #[]) ∧ ∃ ov'', Stt W0 pb w.heap.size n (.slice (some ⟨b, o, none⟩) (m + 1) c) w ov (T ++ joinT [44] ((n.kids.take m).map tk) ++ [[58]]) ov'' w') := h_ (stt_put hp ⟨#[58]⟩ [58] rfl (by simp only [sizeT_app] at hz ⊢; omega))
 have C3 : Hid (∀ W ov', Stt W0 pb w.heap.size n (.slice (some ⟨b, o, none⟩) (m + 1) c) w ov (T ++ joinT [44] ((n.kids.take m).map tk) ++ [[58]]) ov' W → Calls Tryz.prog 21 #[.pointer (some ⟨pb, 0, none⟩), .agg #[.int .i64 y.kind, .string y.text, .slice ay y.kids.length cy]] W fun e w' => e = .returned (.tuple #[]) ∧ ∃ ov'', Stt W0 pb w.heap.size n (.slice (some ⟨b, o, none⟩) (m + 1) c) w ov (T ++ joinT [44] ((n.kids.take m).map tk) ++ [[58]] ++ tk y) ov'' w') := h_ (stt_node hp iy qy ty ry hz)
 have HKy1 := h_ ky1
 have HKy2 := h_ ky2
 have HKy3 := h_ ky3
 have HK := h_ hk
 unfold ndV
 have hs0 := u_ ST
 have y0_0 := hs0.c0
 have y1_0 := hs0.c1
 have y2_0 := hs0.c2
 clear ST ht hb hpo hz hr hcs ry ky1 ky2 ky3 iy qy ih hf hrt
 rw [hk] at hs0 y0_0 y1_0 y2_0 ⊢
 generalize hnt : n.text = ntx at *
 generalize y.kind = yk at *
 generalize y.text = yt at *
 generalize joinT [44] ((n.kids.take m).map tk) = J at *
 go_enter Tryz.func21, Tryz.ntmps21
 go_wp2_with (first
   | (go_at_call_of 21 (Value.agg #[Value.int IntKind.i64 yk, Value.string yt, Value.slice ay y.kids.length cy]); refine (u_ C3 _ _ hs2).mono ?_; rintro e w3 ⟨rfl, ov3, hs3⟩)
   | (go_at_call_of 20 (Value.string ⟨#[58]⟩); refine (u_ C2 _ _ hs1).mono ?_; rintro e w2 ⟨rfl, ov2, hs2⟩; have y2_2 := hs2.c2; have m1_2 := c_ hs2.b (u_ HKy1); have m2_2 := c_ hs2.b (u_ HKy2); have m3_2 := c_ hs2.b (u_ HKy3))
   | (go_at_call 11; refine (u_ C1 _ _ hs0).mono ?_; rintro e w1 ⟨rfl, ov1, hs1⟩; have y2_1 := hs1.c2))
 exact e21 rfl ⟨rfl, ov3, hs3.po, hs3.pr⟩
theorem sp2a (n : Nd) (x : Nd) (y : Nd) (r : List Nd) (hk : n.kind = 2) (hks : n.kids = x :: y :: r) (ihr : ∀ z ∈ r, SpC z) (hfr : ∀ z ∈ r, fmP z) (ix : SpC x) (qx : fmP x)  (gy : ∀ u ∈ y.kids, SpC u) (fy : ∀ u ∈ y.kids, fmP u) (hrne : r ≠ []) : ST 21 n (fun T => T ++ [[109, 111, 100, 117, 108, 101]] ++ [L n.text] ++ tk x ++ ([[40]] ++ joinT [44] ((y.kids).map tk) ++ [[41]]) ++ joinT [] ((r).map tk) ++ [[101, 110, 100]]) := by
 intro v W0 w pb T ov ht hr hb hp hpo hz
 dsimp only at hz ⊢
 have hl := len_okP hr
 rcases RdK_cases hr with ⟨h0, _⟩ | ⟨b, o, c, vs, hv, hn, hcs⟩
 · rw [hks] at h0; cases h0
 subst hv
 have hcap := RdK_cap hr
 obtain ⟨kx1, kx2, kx3, tx, rx⟩ := hcs 0 x (by rw [hks]; rfl)
 obtain ⟨ax, cx, hvx⟩ := RdK_slice rx
 rw [hvx] at kx3 rx
 obtain ⟨ky1, ky2, ky3, ty, ry⟩ := hcs 1 y (by rw [hks]; rfl)
 obtain ⟨ay, cy, hvy⟩ := RdK_slice ry
 rw [hvy] at ky3 ry
 simp only [Nat.zero_mul, Nat.add_zero, Nat.one_mul] at kx1 kx2 kx3 ky1 ky2 ky3
 rw [hks] at hcap hr
 have hlen : n.kids.length = (r.length + 2) := by rw [hks]; rfl
 rw [hlen]
 have hrl : 1 ≤ r.length := by cases r with | nil => exact absurd rfl hrne | cons => simp
 have hrr : RdK W0 r (.slice (some ⟨b, o + 6, none⟩) r.length (c - 2)) := by
   have := RdK_drop hr 2 (by simp) (c - 2) (by simp at hcap ⊢; omega)
   simpa using this
 have hc1 : ¬ c = 2 := by simp at hcap; omega
 have hc2 : r.length + 2 ≤ c := by simpa using hcap
 have hln : r.length + 2 ≤ 9223372036854775807 := by rw [hks] at hl; simpa using hl
 have ST := h_ (Stt.start (n := n) (nv := .slice (some ⟨b, o, none⟩) (r.length + 2) c) hb hpo 30)
 have C1 : Hid (SC W0 pb n (.slice (some ⟨b, o, none⟩) (r.length + 2) c) w ov 20 [.string ⟨#[109, 111, 100, 117, 108, 101]⟩] (T) (T ++ [[109, 111, 100, 117, 108, 101]])) := h_ (stt_put hp ⟨#[109, 111, 100, 117, 108, 101]⟩ [109, 111, 100, 117, 108, 101] rfl (by simp only [sizeT_app] at hz ⊢; omega))
 have C2 : Hid (SC W0 pb n (.slice (some ⟨b, o, none⟩) (r.length + 2) c) w ov 20 [.string n.text] (T ++ [[109, 111, 100, 117, 108, 101]]) (T ++ [[109, 111, 100, 117, 108, 101]] ++ [L n.text])) := h_ (stt_put hp n.text (L n.text) rfl (by simp only [sizeT_app] at hz ⊢; omega))
 have C3 : Hid (SC W0 pb n (.slice (some ⟨b, o, none⟩) (r.length + 2) c) w ov 21 [.agg #[.int .i64 x.kind, .string x.text, .slice ax x.kids.length cx]] (T ++ [[109, 111, 100, 117, 108, 101]] ++ [L n.text]) (T ++ [[109, 111, 100, 117, 108, 101]] ++ [L n.text] ++ tk x)) := h_ (stt_node hp ix qx tx rx (by simp only [sizeT_app] at hz ⊢; omega))
 have C4 : Hid (SC W0 pb n (.slice (some ⟨b, o, none⟩) (r.length + 2) c) w ov 34 [.string ⟨#[40]⟩, .slice ay y.kids.length cy, .string ⟨#[44]⟩, .string ⟨#[41]⟩] (T ++ [[109, 111, 100, 117, 108, 101]] ++ [L n.text] ++ tk x) (T ++ [[109, 111, 100, 117, 108, 101]] ++ [L n.text] ++ tk x ++ ([[40]] ++ joinT [44] ((y.kids).map tk) ++ [[41]]))) := h_ (stt_around hp gy fy ⟨#[40]⟩ ⟨#[44]⟩ ⟨#[41]⟩ [40] [44] [41] rfl rfl rfl ry (by simp only [sizeT_app] at hz ⊢; omega))
 have C5 : Hid (SC W0 pb n (.slice (some ⟨b, o, none⟩) (r.length + 2) c) w ov 11 [.slice (some ⟨b, o + 6, none⟩) r.length (c - 2), .string ⟨#[]⟩] (T ++ [[109, 111, 100, 117, 108, 101]] ++ [L n.text] ++ tk x ++ ([[40]] ++ joinT [44] ((y.kids).map tk) ++ [[41]])) (T ++ [[109, 111, 100, 117, 108, 101]] ++ [L n.text] ++ tk x ++ ([[40]] ++ joinT [44] ((y.kids).map tk) ++ [[41]]) ++ joinT [] ((r).map tk))) := h_ (stt_list hp ihr hfr ⟨#[]⟩ [] rfl hrr (by simp only [sizeT_app] at hz ⊢; omega))
 have C6 : Hid (SC W0 pb n (.slice (some ⟨b, o, none⟩) (r.length + 2) c) w ov 20 [.string ⟨#[101, 110, 100]⟩] (T ++ [[109, 111, 100, 117, 108, 101]] ++ [L n.text] ++ tk x ++ ([[40]] ++ joinT [44] ((y.kids).map tk) ++ [[41]]) ++ joinT [] ((r).map tk)) (T ++ [[109, 111, 100, 117, 108, 101]] ++ [L n.text] ++ tk x ++ ([[40]] ++ joinT [44] ((y.kids).map tk) ++ [[41]]) ++ joinT [] ((r).map tk) ++ [[101, 110, 100]])) := h_ (stt_put hp ⟨#[101, 110, 100]⟩ [101, 110, 100] rfl hz)
 have HKx1 := h_ kx1
 have HKx2 := h_ kx2
 have HKx3 := h_ kx3
 have HKy1 := h_ ky1
 have HKy2 := h_ ky2
 have HKy3 := h_ ky3
 unfold ndV
 have HK := h_ hk
 have hs0 := u_ ST
 have y0_0 := hs0.c0
 have y1_0 := hs0.c1
 have y2_0 := hs0.c2
 have mx1_0 := c_ hs0.b kx1
 have mx2_0 := c_ hs0.b kx2
 have mx3_0 := c_ hs0.b kx3
 have my1_0 := c_ hs0.b ky1
 have my2_0 := c_ hs0.b ky2
 have my3_0 := c_ hs0.b ky3
 clear ST ht hb hpo hz hr hcs  ihr hfr rx kx1 kx2 kx3 ix qx ry ky1 ky2 ky3
 rw [hk] at hs0 y0_0 y1_0 y2_0 mx1_0 mx2_0 mx3_0 my1_0 my2_0 my3_0 ⊢
 generalize hnt : n.text = ntx at *
 generalize x.kind = xk at *
 generalize x.text = xt at *
 generalize y.kind = yk at *
 generalize y.text = yt at *
 go_enter Tryz.func21, Tryz.ntmps21
 go_wp2_with (first
   | (go_at_call_of 20 (Value.string ⟨#[101, 110, 100]⟩); refine (u_ C6 _ _ (by first | exact hs5 | exact hs5.alloc _)).mono ?_; rintro e w6 ⟨rfl, ov6, hs6⟩; have y0_6 := hs6.c0; have y1_6 := hs6.c1; have y2_6 := hs6.c2; rw [u_ HK] at y0_6; rw [hnt] at y1_6; have mx1_6 := c_ hs6.b (u_ HKx1); have mx2_6 := c_ hs6.b (u_ HKx2); have mx3_6 := c_ hs6.b (u_ HKx3); have my1_6 := c_ hs6.b (u_ HKy1); have my2_6 := c_ hs6.b (u_ HKy2); have my3_6 := c_ hs6.b (u_ HKy3))
   | (go_at_call 11; refine (u_ C5 _ _ (by first | exact hs4 | exact hs4.alloc _)).mono ?_; rintro e w5 ⟨rfl, ov5, hs5⟩; have y0_5 := hs5.c0; have y1_5 := hs5.c1; have y2_5 := hs5.c2; rw [u_ HK] at y0_5; rw [hnt] at y1_5; have mx1_5 := c_ hs5.b (u_ HKx1); have mx2_5 := c_ hs5.b (u_ HKx2); have mx3_5 := c_ hs5.b (u_ HKx3); have my1_5 := c_ hs5.b (u_ HKy1); have my2_5 := c_ hs5.b (u_ HKy2); have my3_5 := c_ hs5.b (u_ HKy3))
   | (go_at_call 34; refine (u_ C4 _ _ (by first | exact hs3 | exact hs3.alloc _)).mono ?_; rintro e w4 ⟨rfl, ov4, hs4⟩; have y0_4 := hs4.c0; have y1_4 := hs4.c1; have y2_4 := hs4.c2; rw [u_ HK] at y0_4; rw [hnt] at y1_4; have mx1_4 := c_ hs4.b (u_ HKx1); have mx2_4 := c_ hs4.b (u_ HKx2); have mx3_4 := c_ hs4.b (u_ HKx3); have my1_4 := c_ hs4.b (u_ HKy1); have my2_4 := c_ hs4.b (u_ HKy2); have my3_4 := c_ hs4.b (u_ HKy3))
   | (go_at_call_of 21 (Value.agg #[Value.int IntKind.i64 xk, Value.string xt, Value.slice ax x.kids.length cx]); refine (u_ C3 _ _ (by first | exact hs2 | exact hs2.alloc _)).mono ?_; rintro e w3 ⟨rfl, ov3, hs3⟩; have y0_3 := hs3.c0; have y1_3 := hs3.c1; have y2_3 := hs3.c2; rw [u_ HK] at y0_3; rw [hnt] at y1_3; have mx1_3 := c_ hs3.b (u_ HKx1); have mx2_3 := c_ hs3.b (u_ HKx2); have mx3_3 := c_ hs3.b (u_ HKx3); have my1_3 := c_ hs3.b (u_ HKy1); have my2_3 := c_ hs3.b (u_ HKy2); have my3_3 := c_ hs3.b (u_ HKy3))
   | (go_at_call_of 20 (Value.string ntx); refine (u_ C2 _ _ (by first | exact hs1 | exact hs1.alloc _)).mono ?_; rintro e w2 ⟨rfl, ov2, hs2⟩; have y0_2 := hs2.c0; have y1_2 := hs2.c1; have y2_2 := hs2.c2; rw [u_ HK] at y0_2; rw [hnt] at y1_2; have mx1_2 := c_ hs2.b (u_ HKx1); have mx2_2 := c_ hs2.b (u_ HKx2); have mx3_2 := c_ hs2.b (u_ HKx3); have my1_2 := c_ hs2.b (u_ HKy1); have my2_2 := c_ hs2.b (u_ HKy2); have my3_2 := c_ hs2.b (u_ HKy3))
   | (go_at_call_of 20 (Value.string ⟨#[109, 111, 100, 117, 108, 101]⟩); refine (u_ C1 _ _ (by first | exact hs0 | exact hs0.alloc _)).mono ?_; rintro e w1 ⟨rfl, ov1, hs1⟩; have y0_1 := hs1.c0; have y1_1 := hs1.c1; have y2_1 := hs1.c2; rw [u_ HK] at y0_1; rw [hnt] at y1_1; have mx1_1 := c_ hs1.b (u_ HKx1); have mx2_1 := c_ hs1.b (u_ HKx2); have mx3_1 := c_ hs1.b (u_ HKx3); have my1_1 := c_ hs1.b (u_ HKy1); have my2_1 := c_ hs1.b (u_ HKy2); have my3_1 := c_ hs1.b (u_ HKy3)))
 exact e21 rfl ⟨rfl, ov6, hs6.po, hs6.pr⟩
theorem sp2b (n : Nd) (x : Nd) (y : Nd) (hk : n.kind = 2) (hks : n.kids = [x, y]) (ix : SpC x) (qx : fmP x)  (gy : ∀ u ∈ y.kids, SpC u) (fy : ∀ u ∈ y.kids, fmP u) : ST 21 n (fun T => T ++ [[109, 111, 100, 117, 108, 101]] ++ [L n.text] ++ tk x ++ ([[40]] ++ joinT [44] ((y.kids).map tk) ++ [[41]]) ++ joinT [] ((([] : List Nd)).map tk) ++ [[101, 110, 100]]) := by
 intro v W0 w pb T ov ht hr hb hp hpo hz
 dsimp only at hz ⊢
 have hl := len_okP hr
 rcases RdK_cases hr with ⟨h0, _⟩ | ⟨b, o, c, vs, hv, hn, hcs⟩
 · rw [hks] at h0; cases h0
 subst hv
 have hcap := RdK_cap hr
 obtain ⟨kx1, kx2, kx3, tx, rx⟩ := hcs 0 x (by rw [hks]; rfl)
 obtain ⟨ax, cx, hvx⟩ := RdK_slice rx
 rw [hvx] at kx3 rx
 obtain ⟨ky1, ky2, ky3, ty, ry⟩ := hcs 1 y (by rw [hks]; rfl)
 obtain ⟨ay, cy, hvy⟩ := RdK_slice ry
 rw [hvy] at ky3 ry
 simp only [Nat.zero_mul, Nat.add_zero, Nat.one_mul] at kx1 kx2 kx3 ky1 ky2 ky3
 rw [hks] at hcap hr
 have hlen : n.kids.length = 2 := by rw [hks]; rfl
 rw [hlen]
 have hc1 : 2 ≤ c := by simpa using hcap
 have ST := h_ (Stt.start (n := n) (nv := .slice (some ⟨b, o, none⟩) 2 c) hb hpo 30)
 have C1 : Hid (SC W0 pb n (.slice (some ⟨b, o, none⟩) 2 c) w ov 20 [.string ⟨#[109, 111, 100, 117, 108, 101]⟩] (T) (T ++ [[109, 111, 100, 117, 108, 101]])) := h_ (stt_put hp ⟨#[109, 111, 100, 117, 108, 101]⟩ [109, 111, 100, 117, 108, 101] rfl (by simp only [sizeT_app] at hz ⊢; omega))
 have C2 : Hid (SC W0 pb n (.slice (some ⟨b, o, none⟩) 2 c) w ov 20 [.string n.text] (T ++ [[109, 111, 100, 117, 108, 101]]) (T ++ [[109, 111, 100, 117, 108, 101]] ++ [L n.text])) := h_ (stt_put hp n.text (L n.text) rfl (by simp only [sizeT_app] at hz ⊢; omega))
 have C3 : Hid (SC W0 pb n (.slice (some ⟨b, o, none⟩) 2 c) w ov 21 [.agg #[.int .i64 x.kind, .string x.text, .slice ax x.kids.length cx]] (T ++ [[109, 111, 100, 117, 108, 101]] ++ [L n.text]) (T ++ [[109, 111, 100, 117, 108, 101]] ++ [L n.text] ++ tk x)) := h_ (stt_node hp ix qx tx rx (by simp only [sizeT_app] at hz ⊢; omega))
 have C4 : Hid (SC W0 pb n (.slice (some ⟨b, o, none⟩) 2 c) w ov 34 [.string ⟨#[40]⟩, .slice ay y.kids.length cy, .string ⟨#[44]⟩, .string ⟨#[41]⟩] (T ++ [[109, 111, 100, 117, 108, 101]] ++ [L n.text] ++ tk x) (T ++ [[109, 111, 100, 117, 108, 101]] ++ [L n.text] ++ tk x ++ ([[40]] ++ joinT [44] ((y.kids).map tk) ++ [[41]]))) := h_ (stt_around hp gy fy ⟨#[40]⟩ ⟨#[44]⟩ ⟨#[41]⟩ [40] [44] [41] rfl rfl rfl ry (by simp only [sizeT_app] at hz ⊢; omega))
 have C5 : Hid (∀ (a3 : Option Addr) (c3 : Nat) W ov', Stt W0 pb w.heap.size n (.slice (some ⟨b, o, none⟩) 2 c) w ov (T ++ [[109, 111, 100, 117, 108, 101]] ++ [L n.text] ++ tk x ++ ([[40]] ++ joinT [44] ((y.kids).map tk) ++ [[41]])) ov' W → Calls Tryz.prog 11 #[.pointer (some ⟨pb, 0, none⟩), .slice a3 0 c3, .string ⟨#[]⟩] W fun e w' => e = .returned (.tuple #[]) ∧ ∃ ov'', Stt W0 pb w.heap.size n (.slice (some ⟨b, o, none⟩) 2 c) w ov (T ++ [[109, 111, 100, 117, 108, 101]] ++ [L n.text] ++ tk x ++ ([[40]] ++ joinT [44] ((y.kids).map tk) ++ [[41]]) ++ joinT [] ((([] : List Nd)).map tk)) ov'' w') := h_ (fun a3 c3 => stt_list hp (fun _ h => by cases h) (fun _ h => by cases h) ⟨#[]⟩ [] rfl (.nil _ _) (by simp only [sizeT_app] at hz ⊢; omega))
 have C6 : Hid (SC W0 pb n (.slice (some ⟨b, o, none⟩) 2 c) w ov 20 [.string ⟨#[101, 110, 100]⟩] (T ++ [[109, 111, 100, 117, 108, 101]] ++ [L n.text] ++ tk x ++ ([[40]] ++ joinT [44] ((y.kids).map tk) ++ [[41]]) ++ joinT [] ((([] : List Nd)).map tk)) (T ++ [[109, 111, 100, 117, 108, 101]] ++ [L n.text] ++ tk x ++ ([[40]] ++ joinT [44] ((y.kids).map tk) ++ [[41]]) ++ joinT [] ((([] : List Nd)).map tk) ++ [[101, 110, 100]])) := h_ (stt_put hp ⟨#[101, 110, 100]⟩ [101, 110, 100] rfl hz)
 have HKx1 := h_ kx1
 have HKx2 := h_ kx2
 have HKx3 := h_ kx3
 have HKy1 := h_ ky1
 have HKy2 := h_ ky2
 have HKy3 := h_ ky3
 unfold ndV
 have HK := h_ hk
 have hs0 := u_ ST
 have y0_0 := hs0.c0
 have y1_0 := hs0.c1
 have y2_0 := hs0.c2
 have mx1_0 := c_ hs0.b kx1
 have mx2_0 := c_ hs0.b kx2
 have mx3_0 := c_ hs0.b kx3
 have my1_0 := c_ hs0.b ky1
 have my2_0 := c_ hs0.b ky2
 have my3_0 := c_ hs0.b ky3
 clear ST ht hb hpo hz hr hcs rx kx1 kx2 kx3 ix qx ry ky1 ky2 ky3
 rw [hk] at hs0 y0_0 y1_0 y2_0 mx1_0 mx2_0 mx3_0 my1_0 my2_0 my3_0 ⊢
 generalize hnt : n.text = ntx at *
 generalize x.kind = xk at *
 generalize x.text = xt at *
 generalize y.kind = yk at *
 generalize y.text = yt at *
 go_enter Tryz.func21, Tryz.ntmps21
 go_wp2_with (first
   | (go_at_call_of 20 (Value.string ⟨#[101, 110, 100]⟩); refine (u_ C6 _ _ (by first | exact hs5 | exact hs5.alloc _)).mono ?_; rintro e w6 ⟨rfl, ov6, hs6⟩; have y0_6 := hs6.c0; have y1_6 := hs6.c1; have y2_6 := hs6.c2; rw [u_ HK] at y0_6; rw [hnt] at y1_6; have mx1_6 := c_ hs6.b (u_ HKx1); have mx2_6 := c_ hs6.b (u_ HKx2); have mx3_6 := c_ hs6.b (u_ HKx3); have my1_6 := c_ hs6.b (u_ HKy1); have my2_6 := c_ hs6.b (u_ HKy2); have my3_6 := c_ hs6.b (u_ HKy3))
   | (go_at_call 11; refine (u_ C5 _ _ _ _ (by first | exact hs4 | exact hs4.alloc _)).mono ?_; rintro e w5 ⟨rfl, ov5, hs5⟩; have y0_5 := hs5.c0; have y1_5 := hs5.c1; have y2_5 := hs5.c2; rw [u_ HK] at y0_5; rw [hnt] at y1_5; have mx1_5 := c_ hs5.b (u_ HKx1); have mx2_5 := c_ hs5.b (u_ HKx2); have mx3_5 := c_ hs5.b (u_ HKx3); have my1_5 := c_ hs5.b (u_ HKy1); have my2_5 := c_ hs5.b (u_ HKy2); have my3_5 := c_ hs5.b (u_ HKy3))
   | (go_at_call 34; refine (u_ C4 _ _ (by first | exact hs3 | exact hs3.alloc _)).mono ?_; rintro e w4 ⟨rfl, ov4, hs4⟩; have y0_4 := hs4.c0; have y1_4 := hs4.c1; have y2_4 := hs4.c2; rw [u_ HK] at y0_4; rw [hnt] at y1_4; have mx1_4 := c_ hs4.b (u_ HKx1); have mx2_4 := c_ hs4.b (u_ HKx2); have mx3_4 := c_ hs4.b (u_ HKx3); have my1_4 := c_ hs4.b (u_ HKy1); have my2_4 := c_ hs4.b (u_ HKy2); have my3_4 := c_ hs4.b (u_ HKy3))
   | (go_at_call_of 21 (Value.agg #[Value.int IntKind.i64 xk, Value.string xt, Value.slice ax x.kids.length cx]); refine (u_ C3 _ _ (by first | exact hs2 | exact hs2.alloc _)).mono ?_; rintro e w3 ⟨rfl, ov3, hs3⟩; have y0_3 := hs3.c0; have y1_3 := hs3.c1; have y2_3 := hs3.c2; rw [u_ HK] at y0_3; rw [hnt] at y1_3; have mx1_3 := c_ hs3.b (u_ HKx1); have mx2_3 := c_ hs3.b (u_ HKx2); have mx3_3 := c_ hs3.b (u_ HKx3); have my1_3 := c_ hs3.b (u_ HKy1); have my2_3 := c_ hs3.b (u_ HKy2); have my3_3 := c_ hs3.b (u_ HKy3))
   | (go_at_call_of 20 (Value.string ntx); refine (u_ C2 _ _ (by first | exact hs1 | exact hs1.alloc _)).mono ?_; rintro e w2 ⟨rfl, ov2, hs2⟩; have y0_2 := hs2.c0; have y1_2 := hs2.c1; have y2_2 := hs2.c2; rw [u_ HK] at y0_2; rw [hnt] at y1_2; have mx1_2 := c_ hs2.b (u_ HKx1); have mx2_2 := c_ hs2.b (u_ HKx2); have mx3_2 := c_ hs2.b (u_ HKx3); have my1_2 := c_ hs2.b (u_ HKy1); have my2_2 := c_ hs2.b (u_ HKy2); have my3_2 := c_ hs2.b (u_ HKy3))
   | (go_at_call_of 20 (Value.string ⟨#[109, 111, 100, 117, 108, 101]⟩); refine (u_ C1 _ _ (by first | exact hs0 | exact hs0.alloc _)).mono ?_; rintro e w1 ⟨rfl, ov1, hs1⟩; have y0_1 := hs1.c0; have y1_1 := hs1.c1; have y2_1 := hs1.c2; rw [u_ HK] at y0_1; rw [hnt] at y1_1; have mx1_1 := c_ hs1.b (u_ HKx1); have mx2_1 := c_ hs1.b (u_ HKx2); have mx3_1 := c_ hs1.b (u_ HKx3); have my1_1 := c_ hs1.b (u_ HKy1); have my2_1 := c_ hs1.b (u_ HKy2); have my3_1 := c_ hs1.b (u_ HKy3)))
 all_goals exact e21 rfl ⟨rfl, ov6, by first | exact hs6.po | (have := hs6.po; simpa using this), hs6.pr⟩
end Go.Proofs.YtddlokkejglckaaGreatDoor
