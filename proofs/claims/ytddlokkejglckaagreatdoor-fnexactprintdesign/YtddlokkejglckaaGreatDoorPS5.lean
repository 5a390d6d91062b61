/- What the specification's node prints: the first kinds. -/
import Derived.Test.YtddlokkejglckaaGreatDoorMPD1
namespace Go.Proofs.YtddlokkejglckaaGreatDoor
set_option maxHeartbeats 800000
open Go.RowKit Nt
set_option linter.unusedVariables false
set_option maxRecDepth 100000
theorem sp4 (n : Nd) (x : Nd) (hk : n.kind = 4) (hks : n.kids = [x]) (ix : SpC x) (qx : fmP x) : ST 21 n (fun T => T ++ [L n.text] ++ [[61]] ++ tk x) := by
 intro v W0 w pb T ov ht hr hb hp hpo hz
 dsimp only at hz ⊢
 have hl := len_okP hr
 rcases RdK_cases hr with ⟨h0, _⟩ | ⟨b, o, c, vs, hv, hn, hcs⟩
 · rw [hks] at h0; cases h0
 subst hv
 have hcap := RdK_cap hr
 obtain ⟨kx1, kx2, kx3, tx, rx⟩ := hcs 0 x (by rw [hks]; rfl)
 obtain ⟨ax, cx, hvx⟩ := RdK_slice rx
 rw [hvx] at kx3 rx
 simp only [Nat.zero_mul, Nat.add_zero] at kx1 kx2 kx3
 rw [hks] at hcap hr
 have hlen : n.kids.length = 1 := by rw [hks]; rfl
 rw [hlen]
 have ST := h_ (Stt.start (n := n) (nv := .slice (some ⟨b, o, none⟩) 1 c) hb hpo 30)
 have C1 : Hid (SC W0 pb n (.slice (some ⟨b, o, none⟩) 1 c) w ov 20 [.string n.text] (T) (T ++ [L n.text])) := h_ (stt_put hp n.text (L n.text) rfl (by simp only [sizeT_app] at hz ⊢; omega))
 have C2 : Hid (SC W0 pb n (.slice (some ⟨b, o, none⟩) 1 c) w ov 20 [.string ⟨#[61]⟩] (T ++ [L n.text]) (T ++ [L n.text] ++ [[61]])) := h_ (stt_put hp ⟨#[61]⟩ [61] rfl (by simp only [sizeT_app] at hz ⊢; omega))
 have C3 : Hid (SC W0 pb n (.slice (some ⟨b, o, none⟩) 1 c) w ov 21 [.agg #[.int .i64 x.kind, .string x.text, .slice ax x.kids.length cx]] (T ++ [L n.text] ++ [[61]]) (T ++ [L n.text] ++ [[61]] ++ tk x)) := h_ (stt_node hp ix qx tx rx hz)
 have HKx1 := h_ kx1
 have HKx2 := h_ kx2
 have HKx3 := h_ kx3
 unfold ndV
 have HK := h_ hk
 have hs0 := u_ ST
 have y0_0 := hs0.c0
 have y1_0 := hs0.c1
 have y2_0 := hs0.c2
 have mx1_0 := c_ hs0.b kx1
 have mx2_0 := c_ hs0.b kx2
 have mx3_0 := c_ hs0.b kx3
 clear ST ht hb hpo hz hr hcs rx kx1 kx2 kx3 ix qx
 rw [hk] at hs0 y0_0 y1_0 y2_0 mx1_0 mx2_0 mx3_0 ⊢
 generalize hnt : n.text = ntx at *
 generalize x.kind = xk at *
 generalize x.text = xt at *
 go_enter Tryz.func21, Tryz.ntmps21
 go_wp2_with (first
   | (go_at_call_of 21 (Value.agg #[Value.int IntKind.i64 xk, Value.string xt, Value.slice ax x.kids.length cx]); refine (u_ C3 _ _ hs2).mono ?_; rintro e w3 ⟨rfl, ov3, hs3⟩)
   | (go_at_call_of 20 (Value.string ⟨#[61]⟩); refine (u_ C2 _ _ hs1).mono ?_; rintro e w2 ⟨rfl, ov2, hs2⟩; have y2_2 := hs2.c2; have mx1_2 := c_ hs2.b (u_ HKx1); have mx2_2 := c_ hs2.b (u_ HKx2); have mx3_2 := c_ hs2.b (u_ HKx3))
   | (go_at_call_of 20 (Value.string ntx); refine (u_ C1 _ _ hs0).mono ?_; rintro e w1 ⟨rfl, ov1, hs1⟩; have y2_1 := hs1.c2; have mx1_1 := c_ hs1.b (u_ HKx1); have mx2_1 := c_ hs1.b (u_ HKx2); have mx3_1 := c_ hs1.b (u_ HKx3)))
 exact e21 rfl ⟨rfl, ov3, hs3.po, hs3.pr⟩
theorem sp6 (n : Nd) (x : Nd) (hk : n.kind = 6) (hks : n.kids = [x]) (ix : SpC x) (qx : fmP x) : ST 21 n (fun T => T ++ [[105, 110]] ++ tk x ++ [L n.text]) := by
 intro v W0 w pb T ov ht hr hb hp hpo hz
 dsimp only at hz ⊢
 have hl := len_okP hr
 rcases RdK_cases hr with ⟨h0, _⟩ | ⟨b, o, c, vs, hv, hn, hcs⟩
 · rw [hks] at h0; cases h0
 subst hv
 have hcap := RdK_cap hr
 obtain ⟨kx1, kx2, kx3, tx, rx⟩ := hcs 0 x (by rw [hks]; rfl)
 obtain ⟨ax, cx, hvx⟩ := RdK_slice rx
 rw [hvx] at kx3 rx
 simp only [Nat.zero_mul, Nat.add_zero] at kx1 kx2 kx3
 rw [hks] at hcap hr
 have hlen : n.kids.length = 1 := by rw [hks]; rfl
 rw [hlen]
 have ST := h_ (Stt.start (n := n) (nv := .slice (some ⟨b, o, none⟩) 1 c) hb hpo 30)
 have C1 : Hid (SC W0 pb n (.slice (some ⟨b, o, none⟩) 1 c) w ov 20 [.string ⟨#[105, 110]⟩] (T) (T ++ [[105, 110]])) := h_ (stt_put hp ⟨#[105, 110]⟩ [105, 110] rfl (by simp only [sizeT_app] at hz ⊢; omega))
 have C2 : Hid (SC W0 pb n (.slice (some ⟨b, o, none⟩) 1 c) w ov 21 [.agg #[.int .i64 x.kind, .string x.text, .slice ax x.kids.length cx]] (T ++ [[105, 110]]) (T ++ [[105, 110]] ++ tk x)) := h_ (stt_node hp ix qx tx rx (by simp only [sizeT_app] at hz ⊢; omega))
 have C3 : Hid (SC W0 pb n (.slice (some ⟨b, o, none⟩) 1 c) w ov 20 [.string n.text] (T ++ [[105, 110]] ++ tk x) (T ++ [[105, 110]] ++ tk x ++ [L n.text])) := h_ (stt_put hp n.text (L n.text) rfl hz)
 have HKx1 := h_ kx1
 have HKx2 := h_ kx2
 have HKx3 := h_ kx3
 unfold ndV
 have HK := h_ hk
 have hs0 := u_ ST
 have y0_0 := hs0.c0
 have y1_0 := hs0.c1
 have y2_0 := hs0.c2
 have mx1_0 := c_ hs0.b kx1
 have mx2_0 := c_ hs0.b kx2
 have mx3_0 := c_ hs0.b kx3
 clear ST ht hb hpo hz hr hcs rx kx1 kx2 kx3 ix qx
 rw [hk] at hs0 y0_0 y1_0 y2_0 mx1_0 mx2_0 mx3_0 ⊢
 generalize hnt : n.text = ntx at *
 generalize x.kind = xk at *
 generalize x.text = xt at *
 go_enter Tryz.func21, Tryz.ntmps21
 go_wp2_with (first
   | (go_at_call_of 20 (Value.string ntx); refine (u_ C3 _ _ hs2).mono ?_; rintro e w3 ⟨rfl, ov3, hs3⟩)
   | (go_at_call_of 21 (Value.agg #[Value.int IntKind.i64 xk, Value.string xt, Value.slice ax x.kids.length cx]); refine (u_ C2 _ _ hs1).mono ?_; rintro e w2 ⟨rfl, ov2, hs2⟩; have y1_2 := hs2.c1; rw [hnt] at y1_2)
   | (go_at_call_of 20 (Value.string ⟨#[105, 110]⟩); refine (u_ C1 _ _ hs0).mono ?_; rintro e w1 ⟨rfl, ov1, hs1⟩; have y1_1 := hs1.c1; have y2_1 := hs1.c2; rw [hnt] at y1_1; have mx1_1 := c_ hs1.b (u_ HKx1); have mx2_1 := c_ hs1.b (u_ HKx2); have mx3_1 := c_ hs1.b (u_ HKx3)))
 exact e21 rfl ⟨rfl, ov3, hs3.po, hs3.pr⟩
theorem sp7 (n : Nd) (x : Nd) (hk : n.kind = 7) (hks : n.kids = [x]) (ix : SpC x) (qx : fmP x) : ST 21 n (fun T => T ++ [[111, 117, 116]] ++ tk x ++ [L n.text]) := by
 intro v W0 w pb T ov ht hr hb hp hpo hz
 dsimp only at hz ⊢
 have hl := len_okP hr
 rcases RdK_cases hr with ⟨h0, _⟩ | ⟨b, o, c, vs, hv, hn, hcs⟩
 · rw [hks] at h0; cases h0
 subst hv
 have hcap := RdK_cap hr
 obtain ⟨kx1, kx2, kx3, tx, rx⟩ := hcs 0 x (by rw [hks]; rfl)
 obtain ⟨ax, cx, hvx⟩ := RdK_slice rx
 rw [hvx] at kx3 rx
 simp only [Nat.zero_mul, Nat.add_zero] at kx1 kx2 kx3
 rw [hks] at hcap hr
 have hlen : n.kids.length = 1 := by rw [hks]; rfl
 rw [hlen]
 have ST := h_ (Stt.start (n := n) (nv := .slice (some ⟨b, o, none⟩) 1 c) hb hpo 30)
 have C1 : Hid (SC W0 pb n (.slice (some ⟨b, o, none⟩) 1 c) w ov 20 [.string ⟨#[111, 117, 116]⟩] (T) (T ++ [[111, 117, 116]])) := h_ (stt_put hp ⟨#[111, 117, 116]⟩ [111, 117, 116] rfl (by simp only [sizeT_app] at hz ⊢; omega))
 have C2 : Hid (SC W0 pb n (.slice (some ⟨b, o, none⟩) 1 c) w ov 21 [.agg #[.int .i64 x.kind, .string x.text, .slice ax x.kids.length cx]] (T ++ [[111, 117, 116]]) (T ++ [[111, 117, 116]] ++ tk x)) := h_ (stt_node hp ix qx tx rx (by simp only [sizeT_app] at hz ⊢; omega))
 have C3 : Hid (SC W0 pb n (.slice (some ⟨b, o, none⟩) 1 c) w ov 20 [.string n.text] (T ++ [[111, 117, 116]] ++ tk x) (T ++ [[111, 117, 116]] ++ tk x ++ [L n.text])) := h_ (stt_put hp n.text (L n.text) rfl hz)
 have HKx1 := h_ kx1
 have HKx2 := h_ kx2
 have HKx3 := h_ kx3
 unfold ndV
 have HK := h_ hk
 have hs0 := u_ ST
 have y0_0 := hs0.c0
 have y1_0 := hs0.c1
 have y2_0 := hs0.c2
 have mx1_0 := c_ hs0.b kx1
 have mx2_0 := c_ hs0.b kx2
 have mx3_0 := c_ hs0.b kx3
 clear ST ht hb hpo hz hr hcs rx kx1 kx2 kx3 ix qx
 rw [hk] at hs0 y0_0 y1_0 y2_0 mx1_0 mx2_0 mx3_0 ⊢
 generalize hnt : n.text = ntx at *
 generalize x.kind = xk at *
 generalize x.text = xt at *
 go_enter Tryz.func21, Tryz.ntmps21
 go_wp2_with (first
   | (go_at_call_of 20 (Value.string ntx); refine (u_ C3 _ _ hs2).mono ?_; rintro e w3 ⟨rfl, ov3, hs3⟩)
   | (go_at_call_of 21 (Value.agg #[Value.int IntKind.i64 xk, Value.string xt, Value.slice ax x.kids.length cx]); refine (u_ C2 _ _ hs1).mono ?_; rintro e w2 ⟨rfl, ov2, hs2⟩; have y1_2 := hs2.c1; rw [hnt] at y1_2)
   | (go_at_call_of 20 (Value.string ⟨#[111, 117, 116]⟩); refine (u_ C1 _ _ hs0).mono ?_; rintro e w1 ⟨rfl, ov1, hs1⟩; have y1_1 := hs1.c1; have y2_1 := hs1.c2; rw [hnt] at y1_1; have mx1_1 := c_ hs1.b (u_ HKx1); have mx2_1 := c_ hs1.b (u_ HKx2); have mx3_1 := c_ hs1.b (u_ HKx3)))
 exact e21 rfl ⟨rfl, ov3, hs3.po, hs3.pr⟩
theorem sp9 (n : Nd) (x : Nd) (hk : n.kind = 9) (hks : n.kids = [x]) (ix : SpC x) (qx : fmP x) : ST 21 n (fun T => T ++ [[119, 105, 114, 101]] ++ tk x ++ [L n.text] ++ [[59]]) := by
 intro v W0 w pb T ov ht hr hb hp hpo hz
 dsimp only at hz ⊢
 have hl := len_okP hr
 rcases RdK_cases hr with ⟨h0, _⟩ | ⟨b, o, c, vs, hv, hn, hcs⟩
 · rw [hks] at h0; cases h0
 subst hv
 have hcap := RdK_cap hr
 obtain ⟨kx1, kx2, kx3, tx, rx⟩ := hcs 0 x (by rw [hks]; rfl)
 obtain ⟨ax, cx, hvx⟩ := RdK_slice rx
 rw [hvx] at kx3 rx
 simp only [Nat.zero_mul, Nat.add_zero] at kx1 kx2 kx3
 rw [hks] at hcap hr
 have hlen : n.kids.length = 1 := by rw [hks]; rfl
 rw [hlen]
 have ST := h_ (Stt.start (n := n) (nv := .slice (some ⟨b, o, none⟩) 1 c) hb hpo 30)
 have C1 : Hid (SC W0 pb n (.slice (some ⟨b, o, none⟩) 1 c) w ov 20 [.string ⟨#[119, 105, 114, 101]⟩] (T) (T ++ [[119, 105, 114, 101]])) := h_ (stt_put hp ⟨#[119, 105, 114, 101]⟩ [119, 105, 114, 101] rfl (by simp only [sizeT_app] at hz ⊢; omega))
 have C2 : Hid (SC W0 pb n (.slice (some ⟨b, o, none⟩) 1 c) w ov 21 [.agg #[.int .i64 x.kind, .string x.text, .slice ax x.kids.length cx]] (T ++ [[119, 105, 114, 101]]) (T ++ [[119, 105, 114, 101]] ++ tk x)) := h_ (stt_node hp ix qx tx rx (by simp only [sizeT_app] at hz ⊢; omega))
 have C3 : Hid (SC W0 pb n (.slice (some ⟨b, o, none⟩) 1 c) w ov 20 [.string n.text] (T ++ [[119, 105, 114, 101]] ++ tk x) (T ++ [[119, 105, 114, 101]] ++ tk x ++ [L n.text])) := h_ (stt_put hp n.text (L n.text) rfl (by simp only [sizeT_app] at hz ⊢; omega))
 have C4 : Hid (SC W0 pb n (.slice (some ⟨b, o, none⟩) 1 c) w ov 20 [.string ⟨#[59]⟩] (T ++ [[119, 105, 114, 101]] ++ tk x ++ [L n.text]) (T ++ [[119, 105, 114, 101]] ++ tk x ++ [L n.text] ++ [[59]])) := h_ (stt_put hp ⟨#[59]⟩ [59] rfl hz)
 have HKx1 := h_ kx1
 have HKx2 := h_ kx2
 have HKx3 := h_ kx3
 unfold ndV
 have HK := h_ hk
 have hs0 := u_ ST
 have y0_0 := hs0.c0
 have y1_0 := hs0.c1
 have y2_0 := hs0.c2
 have mx1_0 := c_ hs0.b kx1
 have mx2_0 := c_ hs0.b kx2
 have mx3_0 := c_ hs0.b kx3
 clear ST ht hb hpo hz hr hcs rx kx1 kx2 kx3 ix qx
 rw [hk] at hs0 y0_0 y1_0 y2_0 mx1_0 mx2_0 mx3_0 ⊢
 generalize hnt : n.text = ntx at *
 generalize x.kind = xk at *
 generalize x.text = xt at *
 go_enter Tryz.func21, Tryz.ntmps21
 go_wp2_with (first
   | (go_at_call_of 20 (Value.string ⟨#[59]⟩); refine (u_ C4 _ _ (by first | exact hs3 | exact hs3.alloc _)).mono ?_; rintro e w4 ⟨rfl, ov4, hs4⟩; have y0_4 := hs4.c0; have y1_4 := hs4.c1; have y2_4 := hs4.c2; rw [u_ HK] at y0_4; rw [hnt] at y1_4; have mx1_4 := c_ hs4.b (u_ HKx1); have mx2_4 := c_ hs4.b (u_ HKx2); have mx3_4 := c_ hs4.b (u_ HKx3))
   | (go_at_call_of 20 (Value.string ntx); refine (u_ C3 _ _ (by first | exact hs2 | exact hs2.alloc _)).mono ?_; rintro e w3 ⟨rfl, ov3, hs3⟩; have y0_3 := hs3.c0; have y1_3 := hs3.c1; have y2_3 := hs3.c2; rw [u_ HK] at y0_3; rw [hnt] at y1_3; have mx1_3 := c_ hs3.b (u_ HKx1); have mx2_3 := c_ hs3.b (u_ HKx2); have mx3_3 := c_ hs3.b (u_ HKx3))
   | (go_at_call_of 21 (Value.agg #[Value.int IntKind.i64 xk, Value.string xt, Value.slice ax x.kids.length cx]); refine (u_ C2 _ _ (by first | exact hs1 | exact hs1.alloc _)).mono ?_; rintro e w2 ⟨rfl, ov2, hs2⟩; have y0_2 := hs2.c0; have y1_2 := hs2.c1; have y2_2 := hs2.c2; rw [u_ HK] at y0_2; rw [hnt] at y1_2; have mx1_2 := c_ hs2.b (u_ HKx1); have mx2_2 := c_ hs2.b (u_ HKx2); have mx3_2 := c_ hs2.b (u_ HKx3))
   | (go_at_call_of 20 (Value.string ⟨#[119, 105, 114, 101]⟩); refine (u_ C1 _ _ (by first | exact hs0 | exact hs0.alloc _)).mono ?_; rintro e w1 ⟨rfl, ov1, hs1⟩; have y0_1 := hs1.c0; have y1_1 := hs1.c1; have y2_1 := hs1.c2; rw [u_ HK] at y0_1; rw [hnt] at y1_1; have mx1_1 := c_ hs1.b (u_ HKx1); have mx2_1 := c_ hs1.b (u_ HKx2); have mx3_1 := c_ hs1.b (u_ HKx3)))
 exact e21 rfl ⟨rfl, ov4, hs4.po, hs4.pr⟩
theorem sp10a (n : Nd) (x : Nd) (hk : n.kind = 10) (hks : n.kids = [x]) (ix : SpC x) (qx : fmP x) : ST 21 n (fun T => T ++ [[114, 101, 103]] ++ tk x ++ [L n.text] ++ [[59]]) := by
 intro v W0 w pb T ov ht hr hb hp hpo hz
 dsimp only at hz ⊢
 have hl := len_okP hr
 rcases RdK_cases hr with ⟨h0, _⟩ | ⟨b, o, c, vs, hv, hn, hcs⟩
 · rw [hks] at h0; cases h0
 subst hv
 have hcap := RdK_cap hr
 obtain ⟨kx1, kx2, kx3, tx, rx⟩ := hcs 0 x (by rw [hks]; rfl)
 obtain ⟨ax, cx, hvx⟩ := RdK_slice rx
 rw [hvx] at kx3 rx
 simp only [Nat.zero_mul, Nat.add_zero] at kx1 kx2 kx3
 rw [hks] at hcap hr
 have hlen : n.kids.length = 1 := by rw [hks]; rfl
 rw [hlen]
 have ST := h_ (Stt.start (n := n) (nv := .slice (some ⟨b, o, none⟩) 1 c) hb hpo 30)
 have C1 : Hid (SC W0 pb n (.slice (some ⟨b, o, none⟩) 1 c) w ov 20 [.string ⟨#[114, 101, 103]⟩] (T) (T ++ [[114, 101, 103]])) := h_ (stt_put hp ⟨#[114, 101, 103]⟩ [114, 101, 103] rfl (by simp only [sizeT_app] at hz ⊢; omega))
 have C2 : Hid (SC W0 pb n (.slice (some ⟨b, o, none⟩) 1 c) w ov 21 [.agg #[.int .i64 x.kind, .string x.text, .slice ax x.kids.length cx]] (T ++ [[114, 101, 103]]) (T ++ [[114, 101, 103]] ++ tk x)) := h_ (stt_node hp ix qx tx rx (by simp only [sizeT_app] at hz ⊢; omega))
 have C3 : Hid (SC W0 pb n (.slice (some ⟨b, o, none⟩) 1 c) w ov 20 [.string n.text] (T ++ [[114, 101, 103]] ++ tk x) (T ++ [[114, 101, 103]] ++ tk x ++ [L n.text])) := h_ (stt_put hp n.text (L n.text) rfl (by simp only [sizeT_app] at hz ⊢; omega))
 have C4 : Hid (SC W0 pb n (.slice (some ⟨b, o, none⟩) 1 c) w ov 20 [.string ⟨#[59]⟩] (T ++ [[114, 101, 103]] ++ tk x ++ [L n.text]) (T ++ [[114, 101, 103]] ++ tk x ++ [L n.text] ++ [[59]])) := h_ (stt_put hp ⟨#[59]⟩ [59] rfl hz)
 have HKx1 := h_ kx1
 have HKx2 := h_ kx2
 have HKx3 := h_ kx3
 unfold ndV
 have HK := h_ hk
 have hs0 := u_ ST
 have y0_0 := hs0.c0
 have y1_0 := hs0.c1
 have y2_0 := hs0.c2
 have mx1_0 := c_ hs0.b kx1
 have mx2_0 := c_ hs0.b kx2
 have mx3_0 := c_ hs0.b kx3
 clear ST ht hb hpo hz hr hcs rx kx1 kx2 kx3 ix qx
 rw [hk] at hs0 y0_0 y1_0 y2_0 mx1_0 mx2_0 mx3_0 ⊢
 generalize hnt : n.text = ntx at *
 generalize x.kind = xk at *
 generalize x.text = xt at *
 go_enter Tryz.func21, Tryz.ntmps21
 go_wp2_with (first
   | (go_at_call_of 20 (Value.string ⟨#[59]⟩); refine (u_ C4 _ _ (by first | exact hs3 | exact hs3.alloc _)).mono ?_; rintro e w4 ⟨rfl, ov4, hs4⟩; have y0_4 := hs4.c0; have y1_4 := hs4.c1; have y2_4 := hs4.c2; rw [u_ HK] at y0_4; rw [hnt] at y1_4; have mx1_4 := c_ hs4.b (u_ HKx1); have mx2_4 := c_ hs4.b (u_ HKx2); have mx3_4 := c_ hs4.b (u_ HKx3))
   | (go_at_call_of 20 (Value.string ntx); refine (u_ C3 _ _ (by first | exact hs2 | exact hs2.alloc _)).mono ?_; rintro e w3 ⟨rfl, ov3, hs3⟩; have y0_3 := hs3.c0; have y1_3 := hs3.c1; have y2_3 := hs3.c2; rw [u_ HK] at y0_3; rw [hnt] at y1_3; have mx1_3 := c_ hs3.b (u_ HKx1); have mx2_3 := c_ hs3.b (u_ HKx2); have mx3_3 := c_ hs3.b (u_ HKx3))
   | (go_at_call_of 21 (Value.agg #[Value.int IntKind.i64 xk, Value.string xt, Value.slice ax x.kids.length cx]); refine (u_ C2 _ _ (by first | exact hs1 | exact hs1.alloc _)).mono ?_; rintro e w2 ⟨rfl, ov2, hs2⟩; have y0_2 := hs2.c0; have y1_2 := hs2.c1; have y2_2 := hs2.c2; rw [u_ HK] at y0_2; rw [hnt] at y1_2; have mx1_2 := c_ hs2.b (u_ HKx1); have mx2_2 := c_ hs2.b (u_ HKx2); have mx3_2 := c_ hs2.b (u_ HKx3))
   | (go_at_call_of 20 (Value.string ⟨#[114, 101, 103]⟩); refine (u_ C1 _ _ (by first | exact hs0 | exact hs0.alloc _)).mono ?_; rintro e w1 ⟨rfl, ov1, hs1⟩; have y0_1 := hs1.c0; have y1_1 := hs1.c1; have y2_1 := hs1.c2; rw [u_ HK] at y0_1; rw [hnt] at y1_1; have mx1_1 := c_ hs1.b (u_ HKx1); have mx2_1 := c_ hs1.b (u_ HKx2); have mx3_1 := c_ hs1.b (u_ HKx3)))
 exact e21 rfl ⟨rfl, ov4, hs4.po, hs4.pr⟩
theorem sp10b (n : Nd) (x : Nd) (y : Nd) (hk : n.kind = 10) (hks : n.kids = [x, y]) (ix : SpC x) (qx : fmP x) (iy : SpC y) (qy : fmP y) : ST 21 n (fun T => T ++ [[114, 101, 103]] ++ tk x ++ [L n.text] ++ [[61]] ++ tk y ++ [[59]]) := by
 intro v W0 w pb T ov ht hr hb hp hpo hz
 dsimp only at hz ⊢
 have hl := len_okP hr
 rcases RdK_cases hr with ⟨h0, _⟩ | ⟨b, o, c, vs, hv, hn, hcs⟩
 · rw [hks] at h0; cases h0
 subst hv
 have hcap := RdK_cap hr
 obtain ⟨kx1, kx2, kx3, tx, rx⟩ := hcs 0 x (by rw [hks]; rfl)
 obtain ⟨ax, cx, hvx⟩ := RdK_slice rx
 rw [hvx] at kx3 rx
 obtain ⟨ky1, ky2, ky3, ty, ry⟩ := hcs 1 y (by rw [hks]; rfl)
 obtain ⟨ay, cy, hvy⟩ := RdK_slice ry
 rw [hvy] at ky3 ry
 simp only [Nat.zero_mul, Nat.add_zero, Nat.one_mul] at kx1 kx2 kx3 ky1 ky2 ky3
 rw [hks] at hcap hr
 have hlen : n.kids.length = 2 := by rw [hks]; rfl
 rw [hlen]
 have ST := h_ (Stt.start (n := n) (nv := .slice (some ⟨b, o, none⟩) 2 c) hb hpo 30)
 have C1 : Hid (SC W0 pb n (.slice (some ⟨b, o, none⟩) 2 c) w ov 20 [.string ⟨#[114, 101, 103]⟩] (T) (T ++ [[114, 101, 103]])) := h_ (stt_put hp ⟨#[114, 101, 103]⟩ [114, 101, 103] rfl (by simp only [sizeT_app] at hz ⊢; omega))
 have C2 : Hid (SC W0 pb n (.slice (some ⟨b, o, none⟩) 2 c) w ov 21 [.agg #[.int .i64 x.kind, .string x.text, .slice ax x.kids.length cx]] (T ++ [[114, 101, 103]]) (T ++ [[114, 101, 103]] ++ tk x)) := h_ (stt_node hp ix qx tx rx (by simp only [sizeT_app] at hz ⊢; omega))
 have C3 : Hid (SC W0 pb n (.slice (some ⟨b, o, none⟩) 2 c) w ov 20 [.string n.text] (T ++ [[114, 101, 103]] ++ tk x) (T ++ [[114, 101, 103]] ++ tk x ++ [L n.text])) := h_ (stt_put hp n.text (L n.text) rfl (by simp only [sizeT_app] at hz ⊢; omega))
 have C4 : Hid (SC W0 pb n (.slice (some ⟨b, o, none⟩) 2 c) w ov 20 [.string ⟨#[61]⟩] (T ++ [[114, 101, 103]] ++ tk x ++ [L n.text]) (T ++ [[114, 101, 103]] ++ tk x ++ [L n.text] ++ [[61]])) := h_ (stt_put hp ⟨#[61]⟩ [61] rfl (by simp only [sizeT_app] at hz ⊢; omega))
 have C5 : Hid (SC W0 pb n (.slice (some ⟨b, o, none⟩) 2 c) w ov 21 [.agg #[.int .i64 y.kind, .string y.text, .slice ay y.kids.length cy]] (T ++ [[114, 101, 103]] ++ tk x ++ [L n.text] ++ [[61]]) (T ++ [[114, 101, 103]] ++ tk x ++ [L n.text] ++ [[61]] ++ tk y)) := h_ (stt_node hp iy qy ty ry (by simp only [sizeT_app] at hz ⊢; omega))
 have C6 : Hid (SC W0 pb n (.slice (some ⟨b, o, none⟩) 2 c) w ov 20 [.string ⟨#[59]⟩] (T ++ [[114, 101, 103]] ++ tk x ++ [L n.text] ++ [[61]] ++ tk y) (T ++ [[114, 101, 103]] ++ tk x ++ [L n.text] ++ [[61]] ++ tk y ++ [[59]])) := h_ (stt_put hp ⟨#[59]⟩ [59] rfl hz)
 have HKx1 := h_ kx1
 have HKx2 := h_ kx2
 have HKx3 := h_ kx3
 have HKy1 := h_ ky1
 have HKy2 := h_ ky2
 have HKy3 := h_ ky3
 unfold ndV
 have HK := h_ hk
 have hs0 := u_ ST
 have y0_0 := hs0.c0
 have y1_0 := hs0.c1
 have y2_0 := hs0.c2
 have mx1_0 := c_ hs0.b kx1
 have mx2_0 := c_ hs0.b kx2
 have mx3_0 := c_ hs0.b kx3
 have my1_0 := c_ hs0.b ky1
 have my2_0 := c_ hs0.b ky2
 have my3_0 := c_ hs0.b ky3
 clear ST ht hb hpo hz hr hcs rx kx1 kx2 kx3 ix qx ry ky1 ky2 ky3 iy qy
 rw [hk] at hs0 y0_0 y1_0 y2_0 mx1_0 mx2_0 mx3_0 my1_0 my2_0 my3_0 ⊢
 generalize hnt : n.text = ntx at *
 generalize x.kind = xk at *
 generalize x.text = xt at *
 generalize y.kind = yk at *
 generalize y.text = yt at *
 go_enter Tryz.func21, Tryz.ntmps21
 go_wp2_with (first
   | (go_at_call_of 20 (Value.string ⟨#[59]⟩); refine (u_ C6 _ _ (by first | exact hs5 | exact hs5.alloc _)).mono ?_; rintro e w6 ⟨rfl, ov6, hs6⟩; have y0_6 := hs6.c0; have y1_6 := hs6.c1; have y2_6 := hs6.c2; rw [u_ HK] at y0_6; rw [hnt] at y1_6; have mx1_6 := c_ hs6.b (u_ HKx1); have mx2_6 := c_ hs6.b (u_ HKx2); have mx3_6 := c_ hs6.b (u_ HKx3); have my1_6 := c_ hs6.b (u_ HKy1); have my2_6 := c_ hs6.b (u_ HKy2); have my3_6 := c_ hs6.b (u_ HKy3))
   | (go_at_call_of 21 (Value.agg #[Value.int IntKind.i64 yk, Value.string yt, Value.slice ay y.kids.length cy]); refine (u_ C5 _ _ (by first | exact hs4 | exact hs4.alloc _)).mono ?_; rintro e w5 ⟨rfl, ov5, hs5⟩; have y0_5 := hs5.c0; have y1_5 := hs5.c1; have y2_5 := hs5.c2; rw [u_ HK] at y0_5; rw [hnt] at y1_5; have mx1_5 := c_ hs5.b (u_ HKx1); have mx2_5 := c_ hs5.b (u_ HKx2); have mx3_5 := c_ hs5.b (u_ HKx3); have my1_5 := c_ hs5.b (u_ HKy1); have my2_5 := c_ hs5.b (u_ HKy2); have my3_5 := c_ hs5.b (u_ HKy3))
   | (go_at_call_of 20 (Value.string ⟨#[61]⟩); refine (u_ C4 _ _ (by first | exact hs3 | exact hs3.alloc _)).mono ?_; rintro e w4 ⟨rfl, ov4, hs4⟩; have y0_4 := hs4.c0; have y1_4 := hs4.c1; have y2_4 := hs4.c2; rw [u_ HK] at y0_4; rw [hnt] at y1_4; have mx1_4 := c_ hs4.b (u_ HKx1); have mx2_4 := c_ hs4.b (u_ HKx2); have mx3_4 := c_ hs4.b (u_ HKx3); have my1_4 := c_ hs4.b (u_ HKy1); have my2_4 := c_ hs4.b (u_ HKy2); have my3_4 := c_ hs4.b (u_ HKy3))
   | (go_at_call_of 20 (Value.string ntx); refine (u_ C3 _ _ (by first | exact hs2 | exact hs2.alloc _)).mono ?_; rintro e w3 ⟨rfl, ov3, hs3⟩; have y0_3 := hs3.c0; have y1_3 := hs3.c1; have y2_3 := hs3.c2; rw [u_ HK] at y0_3; rw [hnt] at y1_3; have mx1_3 := c_ hs3.b (u_ HKx1); have mx2_3 := c_ hs3.b (u_ HKx2); have mx3_3 := c_ hs3.b (u_ HKx3); have my1_3 := c_ hs3.b (u_ HKy1); have my2_3 := c_ hs3.b (u_ HKy2); have my3_3 := c_ hs3.b (u_ HKy3))
   | (go_at_call_of 21 (Value.agg #[Value.int IntKind.i64 xk, Value.string xt, Value.slice ax x.kids.length cx]); refine (u_ C2 _ _ (by first | exact hs1 | exact hs1.alloc _)).mono ?_; rintro e w2 ⟨rfl, ov2, hs2⟩; have y0_2 := hs2.c0; have y1_2 := hs2.c1; have y2_2 := hs2.c2; rw [u_ HK] at y0_2; rw [hnt] at y1_2; have mx1_2 := c_ hs2.b (u_ HKx1); have mx2_2 := c_ hs2.b (u_ HKx2); have mx3_2 := c_ hs2.b (u_ HKx3); have my1_2 := c_ hs2.b (u_ HKy1); have my2_2 := c_ hs2.b (u_ HKy2); have my3_2 := c_ hs2.b (u_ HKy3))
   | (go_at_call_of 20 (Value.string ⟨#[114, 101, 103]⟩); refine (u_ C1 _ _ (by first | exact hs0 | exact hs0.alloc _)).mono ?_; rintro e w1 ⟨rfl, ov1, hs1⟩; have y0_1 := hs1.c0; have y1_1 := hs1.c1; have y2_1 := hs1.c2; rw [u_ HK] at y0_1; rw [hnt] at y1_1; have mx1_1 := c_ hs1.b (u_ HKx1); have mx2_1 := c_ hs1.b (u_ HKx2); have mx3_1 := c_ hs1.b (u_ HKx3); have my1_1 := c_ hs1.b (u_ HKy1); have my2_1 := c_ hs1.b (u_ HKy2); have my3_1 := c_ hs1.b (u_ HKy3)))
 exact e21 rfl ⟨rfl, ov6, hs6.po, hs6.pr⟩
theorem sp11 (n : Nd) (x : Nd) (y : Nd) (hk : n.kind = 11) (hks : n.kids = [x, y]) (ix : SpC x) (qx : fmP x) (iy : SpC y) (qy : fmP y) : ST 21 n (fun T => T ++ [[109, 101, 109]] ++ tk x ++ [L n.text] ++ ([[91]] ++ joinT [] (([y]).map tk) ++ [[93]]) ++ [[59]]) := by
 intro v W0 w pb T ov ht hr hb hp hpo hz
 dsimp only at hz ⊢
 have hl := len_okP hr
 rcases RdK_cases hr with ⟨h0, _⟩ | ⟨b, o, c, vs, hv, hn, hcs⟩
 · rw [hks] at h0; cases h0
 subst hv
 have hcap := RdK_cap hr
 obtain ⟨kx1, kx2, kx3, tx, rx⟩ := hcs 0 x (by rw [hks]; rfl)
 obtain ⟨ax, cx, hvx⟩ := RdK_slice rx
 rw [hvx] at kx3 rx
 obtain ⟨ky1, ky2, ky3, ty, ry⟩ := hcs 1 y (by rw [hks]; rfl)
 obtain ⟨ay, cy, hvy⟩ := RdK_slice ry
 rw [hvy] at ky3 ry
 simp only [Nat.zero_mul, Nat.add_zero, Nat.one_mul] at kx1 kx2 kx3 ky1 ky2 ky3
 rw [hks] at hcap hr
 have hlen : n.kids.length = 2 := by rw [hks]; rfl
 rw [hlen]
 have hr1 : RdK W0 [y] (.slice (some ⟨b, o + 3, none⟩) 1 (c - 1)) := by
   have := RdK_drop hr 1 (by simp) (c - 1) (by simp at hcap ⊢; omega)
   simpa using this
 have hc1 : ¬ c = 1 := by simp at hcap; omega
 have hc2 : 2 ≤ c := by simp at hcap; omega
 have ST := h_ (Stt.start (n := n) (nv := .slice (some ⟨b, o, none⟩) 2 c) hb hpo 30)
 have C1 : Hid (SC W0 pb n (.slice (some ⟨b, o, none⟩) 2 c) w ov 20 [.string ⟨#[109, 101, 109]⟩] (T) (T ++ [[109, 101, 109]])) := h_ (stt_put hp ⟨#[109, 101, 109]⟩ [109, 101, 109] rfl (by simp only [sizeT_app] at hz ⊢; omega))
 have C2 : Hid (SC W0 pb n (.slice (some ⟨b, o, none⟩) 2 c) w ov 21 [.agg #[.int .i64 x.kind, .string x.text, .slice ax x.kids.length cx]] (T ++ [[109, 101, 109]]) (T ++ [[109, 101, 109]] ++ tk x)) := h_ (stt_node hp ix qx tx rx (by simp only [sizeT_app] at hz ⊢; omega))
 have C3 : Hid (SC W0 pb n (.slice (some ⟨b, o, none⟩) 2 c) w ov 20 [.string n.text] (T ++ [[109, 101, 109]] ++ tk x) (T ++ [[109, 101, 109]] ++ tk x ++ [L n.text])) := h_ (stt_put hp n.text (L n.text) rfl (by simp only [sizeT_app] at hz ⊢; omega))
 have C4 : Hid (SC W0 pb n (.slice (some ⟨b, o, none⟩) 2 c) w ov 34 [.string ⟨#[91]⟩, .slice (some ⟨b, o + 3, none⟩) 1 (c - 1), .string ⟨#[]⟩, .string ⟨#[93]⟩] (T ++ [[109, 101, 109]] ++ tk x ++ [L n.text]) (T ++ [[109, 101, 109]] ++ tk x ++ [L n.text] ++ ([[91]] ++ joinT [] (([y]).map tk) ++ [[93]]))) := h_ (stt_around hp (fun z hz => by simp only [List.mem_cons, List.mem_nil_iff, or_false] at hz; subst hz; assumption) (fun z hz => by simp only [List.mem_cons, List.mem_nil_iff, or_false] at hz; subst hz; assumption) ⟨#[91]⟩ ⟨#[]⟩ ⟨#[93]⟩ [91] [] [93] rfl rfl rfl hr1 (by simp only [sizeT_app] at hz ⊢; omega))
 have C5 : Hid (SC W0 pb n (.slice (some ⟨b, o, none⟩) 2 c) w ov 20 [.string ⟨#[59]⟩] (T ++ [[109, 101, 109]] ++ tk x ++ [L n.text] ++ ([[91]] ++ joinT [] (([y]).map tk) ++ [[93]])) (T ++ [[109, 101, 109]] ++ tk x ++ [L n.text] ++ ([[91]] ++ joinT [] (([y]).map tk) ++ [[93]]) ++ [[59]])) := h_ (stt_put hp ⟨#[59]⟩ [59] rfl hz)
 have HKx1 := h_ kx1
 have HKx2 := h_ kx2
 have HKx3 := h_ kx3
 have HKy1 := h_ ky1
 have HKy2 := h_ ky2
 have HKy3 := h_ ky3
 unfold ndV
 have HK := h_ hk
 have hs0 := u_ ST
 have y0_0 := hs0.c0
 have y1_0 := hs0.c1
 have y2_0 := hs0.c2
 have mx1_0 := c_ hs0.b kx1
 have mx2_0 := c_ hs0.b kx2
 have mx3_0 := c_ hs0.b kx3
 have my1_0 := c_ hs0.b ky1
 have my2_0 := c_ hs0.b ky2
 have my3_0 := c_ hs0.b ky3
 clear ST ht hb hpo hz hr hcs rx kx1 kx2 kx3 ix qx ry ky1 ky2 ky3 iy qy
 rw [hk] at hs0 y0_0 y1_0 y2_0 mx1_0 mx2_0 mx3_0 my1_0 my2_0 my3_0 ⊢
 generalize hnt : n.text = ntx at *
 generalize x.kind = xk at *
 generalize x.text = xt at *
 generalize y.kind = yk at *
 generalize y.text = yt at *
 go_enter Tryz.func21, Tryz.ntmps21
 go_wp2_with (first
   | (go_at_call_of 20 (Value.string ⟨#[59]⟩); refine (u_ C5 _ _ (by first | exact hs4 | exact hs4.alloc _)).mono ?_; rintro e w5 ⟨rfl, ov5, hs5⟩; have y0_5 := hs5.c0; have y1_5 := hs5.c1; have y2_5 := hs5.c2; rw [u_ HK] at y0_5; rw [hnt] at y1_5; have mx1_5 := c_ hs5.b (u_ HKx1); have mx2_5 := c_ hs5.b (u_ HKx2); have mx3_5 := c_ hs5.b (u_ HKx3); have my1_5 := c_ hs5.b (u_ HKy1); have my2_5 := c_ hs5.b (u_ HKy2); have my3_5 := c_ hs5.b (u_ HKy3))
   | (go_at_call 34; refine (u_ C4 _ _ (by first | exact hs3 | exact hs3.alloc _)).mono ?_; rintro e w4 ⟨rfl, ov4, hs4⟩; have y0_4 := hs4.c0; have y1_4 := hs4.c1; have y2_4 := hs4.c2; rw [u_ HK] at y0_4; rw [hnt] at y1_4; have mx1_4 := c_ hs4.b (u_ HKx1); have mx2_4 := c_ hs4.b (u_ HKx2); have mx3_4 := c_ hs4.b (u_ HKx3); have my1_4 := c_ hs4.b (u_ HKy1); have my2_4 := c_ hs4.b (u_ HKy2); have my3_4 := c_ hs4.b (u_ HKy3))
   | (go_at_call_of 20 (Value.string ntx); refine (u_ C3 _ _ (by first | exact hs2 | exact hs2.alloc _)).mono ?_; rintro e w3 ⟨rfl, ov3, hs3⟩; have y0_3 := hs3.c0; have y1_3 := hs3.c1; have y2_3 := hs3.c2; rw [u_ HK] at y0_3; rw [hnt] at y1_3; have mx1_3 := c_ hs3.b (u_ HKx1); have mx2_3 := c_ hs3.b (u_ HKx2); have mx3_3 := c_ hs3.b (u_ HKx3); have my1_3 := c_ hs3.b (u_ HKy1); have my2_3 := c_ hs3.b (u_ HKy2); have my3_3 := c_ hs3.b (u_ HKy3))
   | (go_at_call_of 21 (Value.agg #[Value.int IntKind.i64 xk, Value.string xt, Value.slice ax x.kids.length cx]); refine (u_ C2 _ _ (by first | exact hs1 | exact hs1.alloc _)).mono ?_; rintro e w2 ⟨rfl, ov2, hs2⟩; have y0_2 := hs2.c0; have y1_2 := hs2.c1; have y2_2 := hs2.c2; rw [u_ HK] at y0_2; rw [hnt] at y1_2; have mx1_2 := c_ hs2.b (u_ HKx1); have mx2_2 := c_ hs2.b (u_ HKx2); have mx3_2 := c_ hs2.b (u_ HKx3); have my1_2 := c_ hs2.b (u_ HKy1); have my2_2 := c_ hs2.b (u_ HKy2); have my3_2 := c_ hs2.b (u_ HKy3))
   | (go_at_call_of 20 (Value.string ⟨#[109, 101, 109]⟩); refine (u_ C1 _ _ (by first | exact hs0 | exact hs0.alloc _)).mono ?_; rintro e w1 ⟨rfl, ov1, hs1⟩; have y0_1 := hs1.c0; have y1_1 := hs1.c1; have y2_1 := hs1.c2; rw [u_ HK] at y0_1; rw [hnt] at y1_1; have mx1_1 := c_ hs1.b (u_ HKx1); have mx2_1 := c_ hs1.b (u_ HKx2); have mx3_1 := c_ hs1.b (u_ HKx3); have my1_1 := c_ hs1.b (u_ HKy1); have my2_1 := c_ hs1.b (u_ HKy2); have my3_1 := c_ hs1.b (u_ HKy3)))
 exact e21 rfl ⟨rfl, ov5, hs5.po, hs5.pr⟩
theorem sp12 (n : Nd) (x : Nd) (hk : n.kind = 12) (hks : n.kids = [x]) (ix : SpC x) (qx : fmP x) : ST 21 n (fun T => T ++ [[99, 111, 110, 115, 116]] ++ [L n.text] ++ [[61]] ++ tk x ++ [[59]]) := by
 intro v W0 w pb T ov ht hr hb hp hpo hz
 dsimp only at hz ⊢
 have hl := len_okP hr
 rcases RdK_cases hr with ⟨h0, _⟩ | ⟨b, o, c, vs, hv, hn, hcs⟩
 · rw [hks] at h0; cases h0
 subst hv
 have hcap := RdK_cap hr
 obtain ⟨kx1, kx2, kx3, tx, rx⟩ := hcs 0 x (by rw [hks]; rfl)
 obtain ⟨ax, cx, hvx⟩ := RdK_slice rx
 rw [hvx] at kx3 rx
 simp only [Nat.zero_mul, Nat.add_zero] at kx1 kx2 kx3
 rw [hks] at hcap hr
 have hlen : n.kids.length = 1 := by rw [hks]; rfl
 rw [hlen]
 have ST := h_ (Stt.start (n := n) (nv := .slice (some ⟨b, o, none⟩) 1 c) hb hpo 30)
 have C1 : Hid (SC W0 pb n (.slice (some ⟨b, o, none⟩) 1 c) w ov 20 [.string ⟨#[99, 111, 110, 115, 116]⟩] (T) (T ++ [[99, 111, 110, 115, 116]])) := h_ (stt_put hp ⟨#[99, 111, 110, 115, 116]⟩ [99, 111, 110, 115, 116] rfl (by simp only [sizeT_app] at hz ⊢; omega))
 have C2 : Hid (SC W0 pb n (.slice (some ⟨b, o, none⟩) 1 c) w ov 20 [.string n.text] (T ++ [[99, 111, 110, 115, 116]]) (T ++ [[99, 111, 110, 115, 116]] ++ [L n.text])) := h_ (stt_put hp n.text (L n.text) rfl (by simp only [sizeT_app] at hz ⊢; omega))
 have C3 : Hid (SC W0 pb n (.slice (some ⟨b, o, none⟩) 1 c) w ov 20 [.string ⟨#[61]⟩] (T ++ [[99, 111, 110, 115, 116]] ++ [L n.text]) (T ++ [[99, 111, 110, 115, 116]] ++ [L n.text] ++ [[61]])) := h_ (stt_put hp ⟨#[61]⟩ [61] rfl (by simp only [sizeT_app] at hz ⊢; omega))
 have C4 : Hid (SC W0 pb n (.slice (some ⟨b, o, none⟩) 1 c) w ov 21 [.agg #[.int .i64 x.kind, .string x.text, .slice ax x.kids.length cx]] (T ++ [[99, 111, 110, 115, 116]] ++ [L n.text] ++ [[61]]) (T ++ [[99, 111, 110, 115, 116]] ++ [L n.text] ++ [[61]] ++ tk x)) := h_ (stt_node hp ix qx tx rx (by simp only [sizeT_app] at hz ⊢; omega))
 have C5 : Hid (SC W0 pb n (.slice (some ⟨b, o, none⟩) 1 c) w ov 20 [.string ⟨#[59]⟩] (T ++ [[99, 111, 110, 115, 116]] ++ [L n.text] ++ [[61]] ++ tk x) (T ++ [[99, 111, 110, 115, 116]] ++ [L n.text] ++ [[61]] ++ tk x ++ [[59]])) := h_ (stt_put hp ⟨#[59]⟩ [59] rfl hz)
 have HKx1 := h_ kx1
 have HKx2 := h_ kx2
 have HKx3 := h_ kx3
 unfold ndV
 have HK := h_ hk
 have hs0 := u_ ST
 have y0_0 := hs0.c0
 have y1_0 := hs0.c1
 have y2_0 := hs0.c2
 have mx1_0 := c_ hs0.b kx1
 have mx2_0 := c_ hs0.b kx2
 have mx3_0 := c_ hs0.b kx3
 clear ST ht hb hpo hz hr hcs rx kx1 kx2 kx3 ix qx
 rw [hk] at hs0 y0_0 y1_0 y2_0 mx1_0 mx2_0 mx3_0 ⊢
 generalize hnt : n.text = ntx at *
 generalize x.kind = xk at *
 generalize x.text = xt at *
 go_enter Tryz.func21, Tryz.ntmps21
 go_wp2_with (first
   | (go_at_call_of 20 (Value.string ⟨#[59]⟩); refine (u_ C5 _ _ hs4).mono ?_; rintro e w5 ⟨rfl, ov5, hs5⟩)
   | (go_at_call_of 21 (Value.agg #[Value.int IntKind.i64 xk, Value.string xt, Value.slice ax x.kids.length cx]); refine (u_ C4 _ _ hs3).mono ?_; rintro e w4 ⟨rfl, ov4, hs4⟩)
   | (go_at_call_of 20 (Value.string ⟨#[61]⟩); refine (u_ C3 _ _ hs2).mono ?_; rintro e w3 ⟨rfl, ov3, hs3⟩; have y2_3 := hs3.c2; have mx1_3 := c_ hs3.b (u_ HKx1); have mx2_3 := c_ hs3.b (u_ HKx2); have mx3_3 := c_ hs3.b (u_ HKx3))
   | (go_at_call_of 20 (Value.string ntx); refine (u_ C2 _ _ hs1).mono ?_; rintro e w2 ⟨rfl, ov2, hs2⟩; have y2_2 := hs2.c2; have mx1_2 := c_ hs2.b (u_ HKx1); have mx2_2 := c_ hs2.b (u_ HKx2); have mx3_2 := c_ hs2.b (u_ HKx3))
   | (go_at_call_of 20 (Value.string ⟨#[99, 111, 110, 115, 116]⟩); refine (u_ C1 _ _ hs0).mono ?_; rintro e w1 ⟨rfl, ov1, hs1⟩; have y1_1 := hs1.c1; have y2_1 := hs1.c2; rw [hnt] at y1_1; have mx1_1 := c_ hs1.b (u_ HKx1); have mx2_1 := c_ hs1.b (u_ HKx2); have mx3_1 := c_ hs1.b (u_ HKx3)))
 exact e21 rfl ⟨rfl, ov5, hs5.po, hs5.pr⟩
theorem sp18 (n : Nd) (x : Nd) (hk : n.kind = 18) (hks : n.kids = [x]) (ix : SpC x) (qx : fmP x) : ST 21 n (fun T => T ++ [[99, 104, 101, 99, 107]] ++ [L n.text] ++ [[61]] ++ tk x ++ [[59]]) := by
 intro v W0 w pb T ov ht hr hb hp hpo hz
 dsimp only at hz ⊢
 have hl := len_okP hr
 rcases RdK_cases hr with ⟨h0, _⟩ | ⟨b, o, c, vs, hv, hn, hcs⟩
 · rw [hks] at h0; cases h0
 subst hv
 have hcap := RdK_cap hr
 obtain ⟨kx1, kx2, kx3, tx, rx⟩ := hcs 0 x (by rw [hks]; rfl)
 obtain ⟨ax, cx, hvx⟩ := RdK_slice rx
 rw [hvx] at kx3 rx
 simp only [Nat.zero_mul, Nat.add_zero] at kx1 kx2 kx3
 rw [hks] at hcap hr
 have hlen : n.kids.length = 1 := by rw [hks]; rfl
 rw [hlen]
 have ST := h_ (Stt.start (n := n) (nv := .slice (some ⟨b, o, none⟩) 1 c) hb hpo 30)
 have C1 : Hid (SC W0 pb n (.slice (some ⟨b, o, none⟩) 1 c) w ov 20 [.string ⟨#[99, 104, 101, 99, 107]⟩] (T) (T ++ [[99, 104, 101, 99, 107]])) := h_ (stt_put hp ⟨#[99, 104, 101, 99, 107]⟩ [99, 104, 101, 99, 107] rfl (by simp only [sizeT_app] at hz ⊢; omega))
 have C2 : Hid (SC W0 pb n (.slice (some ⟨b, o, none⟩) 1 c) w ov 20 [.string n.text] (T ++ [[99, 104, 101, 99, 107]]) (T ++ [[99, 104, 101, 99, 107]] ++ [L n.text])) := h_ (stt_put hp n.text (L n.text) rfl (by simp only [sizeT_app] at hz ⊢; omega))
 have C3 : Hid (SC W0 pb n (.slice (some ⟨b, o, none⟩) 1 c) w ov 20 [.string ⟨#[61]⟩] (T ++ [[99, 104, 101, 99, 107]] ++ [L n.text]) (T ++ [[99, 104, 101, 99, 107]] ++ [L n.text] ++ [[61]])) := h_ (stt_put hp ⟨#[61]⟩ [61] rfl (by simp only [sizeT_app] at hz ⊢; omega))
 have C4 : Hid (SC W0 pb n (.slice (some ⟨b, o, none⟩) 1 c) w ov 21 [.agg #[.int .i64 x.kind, .string x.text, .slice ax x.kids.length cx]] (T ++ [[99, 104, 101, 99, 107]] ++ [L n.text] ++ [[61]]) (T ++ [[99, 104, 101, 99, 107]] ++ [L n.text] ++ [[61]] ++ tk x)) := h_ (stt_node hp ix qx tx rx (by simp only [sizeT_app] at hz ⊢; omega))
 have C5 : Hid (SC W0 pb n (.slice (some ⟨b, o, none⟩) 1 c) w ov 20 [.string ⟨#[59]⟩] (T ++ [[99, 104, 101, 99, 107]] ++ [L n.text] ++ [[61]] ++ tk x) (T ++ [[99, 104, 101, 99, 107]] ++ [L n.text] ++ [[61]] ++ tk x ++ [[59]])) := h_ (stt_put hp ⟨#[59]⟩ [59] rfl hz)
 have HKx1 := h_ kx1
 have HKx2 := h_ kx2
 have HKx3 := h_ kx3
 unfold ndV
 have HK := h_ hk
 have hs0 := u_ ST
 have y0_0 := hs0.c0
 have y1_0 := hs0.c1
 have y2_0 := hs0.c2
 have mx1_0 := c_ hs0.b kx1
 have mx2_0 := c_ hs0.b kx2
 have mx3_0 := c_ hs0.b kx3
 clear ST ht hb hpo hz hr hcs rx kx1 kx2 kx3 ix qx
 rw [hk] at hs0 y0_0 y1_0 y2_0 mx1_0 mx2_0 mx3_0 ⊢
 generalize hnt : n.text = ntx at *
 generalize x.kind = xk at *
 generalize x.text = xt at *
 go_enter Tryz.func21, Tryz.ntmps21
 go_wp2_with (first
   | (go_at_call_of 20 (Value.string ⟨#[59]⟩); refine (u_ C5 _ _ hs4).mono ?_; rintro e w5 ⟨rfl, ov5, hs5⟩)
   | (go_at_call_of 21 (Value.agg #[Value.int IntKind.i64 xk, Value.string xt, Value.slice ax x.kids.length cx]); refine (u_ C4 _ _ hs3).mono ?_; rintro e w4 ⟨rfl, ov4, hs4⟩)
   | (go_at_call_of 20 (Value.string ⟨#[61]⟩); refine (u_ C3 _ _ hs2).mono ?_; rintro e w3 ⟨rfl, ov3, hs3⟩; have y2_3 := hs3.c2; have mx1_3 := c_ hs3.b (u_ HKx1); have mx2_3 := c_ hs3.b (u_ HKx2); have mx3_3 := c_ hs3.b (u_ HKx3))
   | (go_at_call_of 20 (Value.string ntx); refine (u_ C2 _ _ hs1).mono ?_; rintro e w2 ⟨rfl, ov2, hs2⟩; have y2_2 := hs2.c2; have mx1_2 := c_ hs2.b (u_ HKx1); have mx2_2 := c_ hs2.b (u_ HKx2); have mx3_2 := c_ hs2.b (u_ HKx3))
   | (go_at_call_of 20 (Value.string ⟨#[99, 104, 101, 99, 107]⟩); refine (u_ C1 _ _ hs0).mono ?_; rintro e w1 ⟨rfl, ov1, hs1⟩; have y1_1 := hs1.c1; have y2_1 := hs1.c2; rw [hnt] at y1_1; have mx1_1 := c_ hs1.b (u_ HKx1); have mx2_1 := c_ hs1.b (u_ HKx2); have mx3_1 := c_ hs1.b (u_ HKx3)))
 exact e21 rfl ⟨rfl, ov5, hs5.po, hs5.pr⟩
theorem sp13 (n : Nd) (hk : n.kind = 13) (ih : ∀ x ∈ n.kids, SpC x) (hf : ∀ x ∈ n.kids, fmP x) : ST 21 n (fun T => T ++ ([[101, 110, 117, 109]] ++ joinT [44] ((n.kids).map tk) ++ [[59]])) := by
 intro v W0 w pb T ov ht hr hb hp hpo hz
 dsimp only at hz ⊢
 have hl := len_okP hr
 obtain ⟨a0, c0, hv0⟩ := RdK_slice hr
 have HR := h_ hr
 subst hv0
 have ST := h_ (Stt.start (n := n) (nv := .slice a0 n.kids.length c0) hb hpo 30)
 have C1 : Hid (SC W0 pb n (.slice a0 n.kids.length c0) w ov 34 [.string ⟨#[101, 110, 117, 109]⟩, .slice a0 n.kids.length c0, .string ⟨#[44]⟩, .string ⟨#[59]⟩] (T) (T ++ ([[101, 110, 117, 109]] ++ joinT [44] ((n.kids).map tk) ++ [[59]]))) := h_ (stt_around hp ih hf ⟨#[101, 110, 117, 109]⟩ ⟨#[44]⟩ ⟨#[59]⟩ [101, 110, 117, 109] [44] [59] rfl rfl rfl hr hz)
 unfold ndV
 have HK := h_ hk
 have hs0 := u_ ST
 have y0_0 := hs0.c0
 have y1_0 := hs0.c1
 have y2_0 := hs0.c2
 clear ST ht hb hpo hz hr
 rw [hk] at hs0 y0_0 y1_0 y2_0  ⊢
 generalize hnt : n.text = ntx at *
 go_enter Tryz.func21, Tryz.ntmps21
 go_wp2_with (first
   | (go_at_call 34; refine (u_ C1 _ _ hs0).mono ?_; rintro e w1 ⟨rfl, ov1, hs1⟩))
 exact e21 rfl ⟨rfl, ov1, hs1.po, hs1.pr⟩
theorem sp15 (n : Nd) (x : Nd) (hk : n.kind = 15) (hks : n.kids = [x]) (ix : SpC x) (qx : fmP x) : ST 21 n (fun T => T ++ [[99, 111, 109, 98]] ++ tk x) := by
 intro v W0 w pb T ov ht hr hb hp hpo hz
 dsimp only at hz ⊢
 have hl := len_okP hr
 rcases RdK_cases hr with ⟨h0, _⟩ | ⟨b, o, c, vs, hv, hn, hcs⟩
 · rw [hks] at h0; cases h0
 subst hv
 have hcap := RdK_cap hr
 obtain ⟨kx1, kx2, kx3, tx, rx⟩ := hcs 0 x (by rw [hks]; rfl)
 obtain ⟨ax, cx, hvx⟩ := RdK_slice rx
 rw [hvx] at kx3 rx
 simp only [Nat.zero_mul, Nat.add_zero] at kx1 kx2 kx3
 rw [hks] at hcap hr
 have hlen : n.kids.length = 1 := by rw [hks]; rfl
 rw [hlen]
 have ST := h_ (Stt.start (n := n) (nv := .slice (some ⟨b, o, none⟩) 1 c) hb hpo 30)
 have C1 : Hid (SC W0 pb n (.slice (some ⟨b, o, none⟩) 1 c) w ov 20 [.string ⟨#[99, 111, 109, 98]⟩] (T) (T ++ [[99, 111, 109, 98]])) := h_ (stt_put hp ⟨#[99, 111, 109, 98]⟩ [99, 111, 109, 98] rfl (by simp only [sizeT_app] at hz ⊢; omega))
 have C2 : Hid (SC W0 pb n (.slice (some ⟨b, o, none⟩) 1 c) w ov 21 [.agg #[.int .i64 x.kind, .string x.text, .slice ax x.kids.length cx]] (T ++ [[99, 111, 109, 98]]) (T ++ [[99, 111, 109, 98]] ++ tk x)) := h_ (stt_node hp ix qx tx rx hz)
 have HKx1 := h_ kx1
 have HKx2 := h_ kx2
 have HKx3 := h_ kx3
 unfold ndV
 have HK := h_ hk
 have hs0 := u_ ST
 have y0_0 := hs0.c0
 have y1_0 := hs0.c1
 have y2_0 := hs0.c2
 have mx1_0 := c_ hs0.b kx1
 have mx2_0 := c_ hs0.b kx2
 have mx3_0 := c_ hs0.b kx3
 clear ST ht hb hpo hz hr hcs rx kx1 kx2 kx3 ix qx
 rw [hk] at hs0 y0_0 y1_0 y2_0 mx1_0 mx2_0 mx3_0 ⊢
 generalize hnt : n.text = ntx at *
 generalize x.kind = xk at *
 generalize x.text = xt at *
 go_enter Tryz.func21, Tryz.ntmps21
 go_wp2_with (first
   | (go_at_call_of 21 (Value.agg #[Value.int IntKind.i64 xk, Value.string xt, Value.slice ax x.kids.length cx]); refine (u_ C2 _ _ hs1).mono ?_; rintro e w2 ⟨rfl, ov2, hs2⟩)
   | (go_at_call_of 20 (Value.string ⟨#[99, 111, 109, 98]⟩); refine (u_ C1 _ _ hs0).mono ?_; rintro e w1 ⟨rfl, ov1, hs1⟩; have y2_1 := hs1.c2; have mx1_1 := c_ hs1.b (u_ HKx1); have mx2_1 := c_ hs1.b (u_ HKx2); have mx3_1 := c_ hs1.b (u_ HKx3)))
 exact e21 rfl ⟨rfl, ov2, hs2.po, hs2.pr⟩
theorem sp17 (n : Nd) (x : Nd) (hk : n.kind = 17) (hks : n.kids = [x]) (ix : SpC x) (qx : fmP x) : ST 21 n (fun T => T ++ [[115, 116, 97, 114, 116]] ++ tk x) := by
 intro v W0 w pb T ov ht hr hb hp hpo hz
 dsimp only at hz ⊢
 have hl := len_okP hr
 rcases RdK_cases hr with ⟨h0, _⟩ | ⟨b, o, c, vs, hv, hn, hcs⟩
 · rw [hks] at h0; cases h0
 subst hv
 have hcap := RdK_cap hr
 obtain ⟨kx1, kx2, kx3, tx, rx⟩ := hcs 0 x (by rw [hks]; rfl)
 obtain ⟨ax, cx, hvx⟩ := RdK_slice rx
 rw [hvx] at kx3 rx
 simp only [Nat.zero_mul, Nat.add_zero] at kx1 kx2 kx3
 rw [hks] at hcap hr
 have hlen : n.kids.length = 1 := by rw [hks]; rfl
 rw [hlen]
 have ST := h_ (Stt.start (n := n) (nv := .slice (some ⟨b, o, none⟩) 1 c) hb hpo 30)
 have C1 : Hid (SC W0 pb n (.slice (some ⟨b, o, none⟩) 1 c) w ov 20 [.string ⟨#[115, 116, 97, 114, 116]⟩] (T) (T ++ [[115, 116, 97, 114, 116]])) := h_ (stt_put hp ⟨#[115, 116, 97, 114, 116]⟩ [115, 116, 97, 114, 116] rfl (by simp only [sizeT_app] at hz ⊢; omega))
 have C2 : Hid (SC W0 pb n (.slice (some ⟨b, o, none⟩) 1 c) w ov 21 [.agg #[.int .i64 x.kind, .string x.text, .slice ax x.kids.length cx]] (T ++ [[115, 116, 97, 114, 116]]) (T ++ [[115, 116, 97, 114, 116]] ++ tk x)) := h_ (stt_node hp ix qx tx rx hz)
 have HKx1 := h_ kx1
 have HKx2 := h_ kx2
 have HKx3 := h_ kx3
 unfold ndV
 have HK := h_ hk
 have hs0 := u_ ST
 have y0_0 := hs0.c0
 have y1_0 := hs0.c1
 have y2_0 := hs0.c2
 have mx1_0 := c_ hs0.b kx1
 have mx2_0 := c_ hs0.b kx2
 have mx3_0 := c_ hs0.b kx3
 clear ST ht hb hpo hz hr hcs rx kx1 kx2 kx3 ix qx
 rw [hk] at hs0 y0_0 y1_0 y2_0 mx1_0 mx2_0 mx3_0 ⊢
 generalize hnt : n.text = ntx at *
 generalize x.kind = xk at *
 generalize x.text = xt at *
 go_enter Tryz.func21, Tryz.ntmps21
 go_wp2_with (first
   | (go_at_call_of 21 (Value.agg #[Value.int IntKind.i64 xk, Value.string xt, Value.slice ax x.kids.length cx]); refine (u_ C2 _ _ hs1).mono ?_; rintro e w2 ⟨rfl, ov2, hs2⟩)
   | (go_at_call_of 20 (Value.string ⟨#[115, 116, 97, 114, 116]⟩); refine (u_ C1 _ _ hs0).mono ?_; rintro e w1 ⟨rfl, ov1, hs1⟩; have y2_1 := hs1.c2; have mx1_1 := c_ hs1.b (u_ HKx1); have mx2_1 := c_ hs1.b (u_ HKx2); have mx3_1 := c_ hs1.b (u_ HKx3)))
 exact e21 rfl ⟨rfl, ov2, hs2.po, hs2.pr⟩
theorem sp16 (n : Nd) (x : Nd) (hk : n.kind = 16) (hks : n.kids = [x]) (ix : SpC x) (qx : fmP x) : ST 21 n (fun T => T ++ [[111, 110]] ++ [L n.text] ++ tk x) := by
 intro v W0 w pb T ov ht hr hb hp hpo hz
 dsimp only at hz ⊢
 have hl := len_okP hr
 rcases RdK_cases hr with ⟨h0, _⟩ | ⟨b, o, c, vs, hv, hn, hcs⟩
 · rw [hks] at h0; cases h0
 subst hv
 have hcap := RdK_cap hr
 obtain ⟨kx1, kx2, kx3, tx, rx⟩ := hcs 0 x (by rw [hks]; rfl)
 obtain ⟨ax, cx, hvx⟩ := RdK_slice rx
 rw [hvx] at kx3 rx
 simp only [Nat.zero_mul, Nat.add_zero] at kx1 kx2 kx3
 rw [hks] at hcap hr
 have hlen : n.kids.length = 1 := by rw [hks]; rfl
 rw [hlen]
 have ST := h_ (Stt.start (n := n) (nv := .slice (some ⟨b, o, none⟩) 1 c) hb hpo 30)
 have C1 : Hid (SC W0 pb n (.slice (some ⟨b, o, none⟩) 1 c) w ov 20 [.string ⟨#[111, 110]⟩] (T) (T ++ [[111, 110]])) := h_ (stt_put hp ⟨#[111, 110]⟩ [111, 110] rfl (by simp only [sizeT_app] at hz ⊢; omega))
 have C2 : Hid (SC W0 pb n (.slice (some ⟨b, o, none⟩) 1 c) w ov 20 [.string n.text] (T ++ [[111, 110]]) (T ++ [[111, 110]] ++ [L n.text])) := h_ (stt_put hp n.text (L n.text) rfl (by simp only [sizeT_app] at hz ⊢; omega))
 have C3 : Hid (SC W0 pb n (.slice (some ⟨b, o, none⟩) 1 c) w ov 21 [.agg #[.int .i64 x.kind, .string x.text, .slice ax x.kids.length cx]] (T ++ [[111, 110]] ++ [L n.text]) (T ++ [[111, 110]] ++ [L n.text] ++ tk x)) := h_ (stt_node hp ix qx tx rx hz)
 have HKx1 := h_ kx1
 have HKx2 := h_ kx2
 have HKx3 := h_ kx3
 unfold ndV
 have HK := h_ hk
 have hs0 := u_ ST
 have y0_0 := hs0.c0
 have y1_0 := hs0.c1
 have y2_0 := hs0.c2
 have mx1_0 := c_ hs0.b kx1
 have mx2_0 := c_ hs0.b kx2
 have mx3_0 := c_ hs0.b kx3
 clear ST ht hb hpo hz hr hcs rx kx1 kx2 kx3 ix qx
 rw [hk] at hs0 y0_0 y1_0 y2_0 mx1_0 mx2_0 mx3_0 ⊢
 generalize hnt : n.text = ntx at *
 generalize x.kind = xk at *
 generalize x.text = xt at *
 go_enter Tryz.func21, Tryz.ntmps21
 go_wp2_with (first
   | (go_at_call_of 21 (Value.agg #[Value.int IntKind.i64 xk, Value.string xt, Value.slice ax x.kids.length cx]); refine (u_ C3 _ _ hs2).mono ?_; rintro e w3 ⟨rfl, ov3, hs3⟩)
   | (go_at_call_of 20 (Value.string ntx); refine (u_ C2 _ _ hs1).mono ?_; rintro e w2 ⟨rfl, ov2, hs2⟩; have y2_2 := hs2.c2; have mx1_2 := c_ hs2.b (u_ HKx1); have mx2_2 := c_ hs2.b (u_ HKx2); have mx3_2 := c_ hs2.b (u_ HKx3))
   | (go_at_call_of 20 (Value.string ⟨#[111, 110]⟩); refine (u_ C1 _ _ hs0).mono ?_; rintro e w1 ⟨rfl, ov1, hs1⟩; have y1_1 := hs1.c1; have y2_1 := hs1.c2; rw [hnt] at y1_1; have mx1_1 := c_ hs1.b (u_ HKx1); have mx2_1 := c_ hs1.b (u_ HKx2); have mx3_1 := c_ hs1.b (u_ HKx3)))
 exact e21 rfl ⟨rfl, ov3, hs3.po, hs3.pr⟩
end Go.Proofs.YtddlokkejglckaaGreatDoor
