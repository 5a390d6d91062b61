/- What the specification's expr prints, kind by kind. -/
import Derived.Test.YtddlokkejglckaaGreatDoorMPD1
namespace Go.Proofs.YtddlokkejglckaaGreatDoor
set_option maxHeartbeats 800000
open Go.RowKit Nt
set_option linter.unusedVariables false
set_option maxRecDepth 100000
theorem sp38 (n : Nd) (x : Nd) (hk : n.kind = 38) (hks : n.kids = [x]) (ix : SpC x) (qx : fmP x) : ST 36 n (fun T => T ++ [L n.text] ++ ([[91]] ++ joinT [58] (([x]).map tk) ++ [[93]])) := by
 intro v W0 w pb T ov ht hr hb hp hpo hz
 dsimp only at hz ⊢
 have hl := len_okP hr
 rcases RdK_cases hr with ⟨h0, _⟩ | ⟨b, o, c, vs, hv, hn, hcs⟩
 · rw [hks] at h0; cases h0
 subst hv
 have hcap := RdK_cap hr
 obtain ⟨kx1, kx2, kx3, tx, rx⟩ := hcs 0 x (by rw [hks]; rfl)
 obtain ⟨ax, cx, hvx⟩ := RdK_slice rx
 rw [hvx] at kx3 rx
 simp only [Nat.zero_mul, Nat.add_zero] at kx1 kx2 kx3
 rw [hks] at hcap hr
 have hlen : n.kids.length = 1 := by rw [hks]; rfl
 rw [hlen]
 have ST := h_ (Stt.start (n := n) (nv := .slice (some ⟨b, o, none⟩) 1 c) hb hpo 30)
 have C1 : Hid (SC W0 pb n (.slice (some ⟨b, o, none⟩) 1 c) w ov 20 [.string n.text] (T) (T ++ [L n.text])) := h_ (stt_put hp n.text (L n.text) rfl (by simp only [sizeT_app] at hz ⊢; omega))
 have C2 : Hid (SC W0 pb n (.slice (some ⟨b, o, none⟩) 1 c) w ov 34 [.string ⟨#[91]⟩, .slice (some ⟨b, o, none⟩) 1 c, .string ⟨#[58]⟩, .string ⟨#[93]⟩] (T ++ [L n.text]) (T ++ [L n.text] ++ ([[91]] ++ joinT [58] (([x]).map tk) ++ [[93]]))) := h_ (stt_around hp (fun z hz => by simp only [List.mem_cons, List.mem_nil_iff, or_false] at hz; subst hz; assumption) (fun z hz => by simp only [List.mem_cons, List.mem_nil_iff, or_false] at hz; subst hz; assumption) ⟨#[91]⟩ ⟨#[58]⟩ ⟨#[93]⟩ [91] [58] [93] rfl rfl rfl hr hz)
 have HKx1 := h_ kx1
 have HKx2 := h_ kx2
 have HKx3 := h_ kx3
 unfold ndV
 have HK := h_ hk
 have hs0 := u_ ST
 have y0_0 := hs0.c0
 have y1_0 := hs0.c1
 have y2_0 := hs0.c2
 have mx1_0 := c_ hs0.b kx1
 have mx2_0 := c_ hs0.b kx2
 have mx3_0 := c_ hs0.b kx3
 clear ST ht hb hpo hz hr hcs rx kx1 kx2 kx3 ix qx
 rw [hk] at hs0 y0_0 y1_0 y2_0 mx1_0 mx2_0 mx3_0 ⊢
 generalize hnt : n.text = ntx at *
 generalize x.kind = xk at *
 generalize x.text = xt at *
 go_enter Tryz.func36, Tryz.ntmps36
 go_wp2_with (first
   | (go_at_call 34; refine (u_ C2 _ _ hs1).mono ?_; rintro e w2 ⟨rfl, ov2, hs2⟩)
   | (go_at_call_of 20 (Value.string ntx); refine (u_ C1 _ _ hs0).mono ?_; rintro e w1 ⟨rfl, ov1, hs1⟩; have y2_1 := hs1.c2))
 exact e36 rfl ⟨rfl, ov2, hs2.po, hs2.pr⟩
theorem sp39 (n : Nd) (x : Nd) (y : Nd) (hk : n.kind = 39) (hks : n.kids = [x, y]) (ix : SpC x) (qx : fmP x) (iy : SpC y) (qy : fmP y) : ST 36 n (fun T => T ++ [L n.text] ++ ([[91]] ++ joinT [58] (([x, y]).map tk) ++ [[93]])) := by
 intro v W0 w pb T ov ht hr hb hp hpo hz
 dsimp only at hz ⊢
 have hl := len_okP hr
 rcases RdK_cases hr with ⟨h0, _⟩ | ⟨b, o, c, vs, hv, hn, hcs⟩
 · rw [hks] at h0; cases h0
 subst hv
 have hcap := RdK_cap hr
 obtain ⟨kx1, kx2, kx3, tx, rx⟩ := hcs 0 x (by rw [hks]; rfl)
 obtain ⟨ax, cx, hvx⟩ := RdK_slice rx
 rw [hvx] at kx3 rx
 obtain ⟨ky1, ky2, ky3, ty, ry⟩ := hcs 1 y (by rw [hks]; rfl)
 obtain ⟨ay, cy, hvy⟩ := RdK_slice ry
 rw [hvy] at ky3 ry
 simp only [Nat.zero_mul, Nat.add_zero, Nat.one_mul] at kx1 kx2 kx3 ky1 ky2 ky3
 rw [hks] at hcap hr
 have hlen : n.kids.length = 2 := by rw [hks]; rfl
 rw [hlen]
 have ST := h_ (Stt.start (n := n) (nv := .slice (some ⟨b, o, none⟩) 2 c) hb hpo 30)
 have C1 : Hid (SC W0 pb n (.slice (some ⟨b, o, none⟩) 2 c) w ov 20 [.string n.text] (T) (T ++ [L n.text])) := h_ (stt_put hp n.text (L n.text) rfl (by simp only [sizeT_app] at hz ⊢; omega))
 have C2 : Hid (SC W0 pb n (.slice (some ⟨b, o, none⟩) 2 c) w ov 34 [.string ⟨#[91]⟩, .slice (some ⟨b, o, none⟩) 2 c, .string ⟨#[58]⟩, .string ⟨#[93]⟩] (T ++ [L n.text]) (T ++ [L n.text] ++ ([[91]] ++ joinT [58] (([x, y]).map tk) ++ [[93]]))) := h_ (stt_around hp (fun z hz => by simp only [List.mem_cons, List.mem_nil_iff, or_false] at hz; rcases hz with rfl | rfl <;> assumption) (fun z hz => by simp only [List.mem_cons, List.mem_nil_iff, or_false] at hz; rcases hz with rfl | rfl <;> assumption) ⟨#[91]⟩ ⟨#[58]⟩ ⟨#[93]⟩ [91] [58] [93] rfl rfl rfl hr hz)
 have HKx1 := h_ kx1
 have HKx2 := h_ kx2
 have HKx3 := h_ kx3
 have HKy1 := h_ ky1
 have HKy2 := h_ ky2
 have HKy3 := h_ ky3
 unfold ndV
 have HK := h_ hk
 have hs0 := u_ ST
 have y0_0 := hs0.c0
 have y1_0 := hs0.c1
 have y2_0 := hs0.c2
 have mx1_0 := c_ hs0.b kx1
 have mx2_0 := c_ hs0.b kx2
 have mx3_0 := c_ hs0.b kx3
 have my1_0 := c_ hs0.b ky1
 have my2_0 := c_ hs0.b ky2
 have my3_0 := c_ hs0.b ky3
 clear ST ht hb hpo hz hr hcs rx kx1 kx2 kx3 ix qx ry ky1 ky2 ky3 iy qy
 rw [hk] at hs0 y0_0 y1_0 y2_0 mx1_0 mx2_0 mx3_0 my1_0 my2_0 my3_0 ⊢
 generalize hnt : n.text = ntx at *
 generalize x.kind = xk at *
 generalize x.text = xt at *
 generalize y.kind = yk at *
 generalize y.text = yt at *
 go_enter Tryz.func36, Tryz.ntmps36
 go_wp2_with (first
   | (go_at_call 34; refine (u_ C2 _ _ hs1).mono ?_; rintro e w2 ⟨rfl, ov2, hs2⟩)
   | (go_at_call_of 20 (Value.string ntx); refine (u_ C1 _ _ hs0).mono ?_; rintro e w1 ⟨rfl, ov1, hs1⟩; have y2_1 := hs1.c2))
 exact e36 rfl ⟨rfl, ov2, hs2.po, hs2.pr⟩
theorem sp40 (n : Nd) (hk : n.kind = 40) (ih : ∀ x ∈ n.kids, SpC x) (hf : ∀ x ∈ n.kids, fmP x) : ST 36 n (fun T => T ++ [L n.text] ++ ([[40]] ++ joinT [44] ((n.kids).map tk) ++ [[41]])) := by
 intro v W0 w pb T ov ht hr hb hp hpo hz
 dsimp only at hz ⊢
 have hl := len_okP hr
 obtain ⟨a0, c0, hv0⟩ := RdK_slice hr
 have HR := h_ hr
 subst hv0
 have ST := h_ (Stt.start (n := n) (nv := .slice a0 n.kids.length c0) hb hpo 30)
 have C1 : Hid (SC W0 pb n (.slice a0 n.kids.length c0) w ov 20 [.string n.text] (T) (T ++ [L n.text])) := h_ (stt_put hp n.text (L n.text) rfl (by simp only [sizeT_app] at hz ⊢; omega))
 have C2 : Hid (SC W0 pb n (.slice a0 n.kids.length c0) w ov 34 [.string ⟨#[40]⟩, .slice a0 n.kids.length c0, .string ⟨#[44]⟩, .string ⟨#[41]⟩] (T ++ [L n.text]) (T ++ [L n.text] ++ ([[40]] ++ joinT [44] ((n.kids).map tk) ++ [[41]]))) := h_ (stt_around hp ih hf ⟨#[40]⟩ ⟨#[44]⟩ ⟨#[41]⟩ [40] [44] [41] rfl rfl rfl hr hz)
 unfold ndV
 have HK := h_ hk
 have hs0 := u_ ST
 have y0_0 := hs0.c0
 have y1_0 := hs0.c1
 have y2_0 := hs0.c2
 clear ST ht hb hpo hz hr
 rw [hk] at hs0 y0_0 y1_0 y2_0  ⊢
 generalize hnt : n.text = ntx at *
 go_enter Tryz.func36, Tryz.ntmps36
 go_wp2_with (first
   | (go_at_call 34; refine (u_ C2 _ _ hs1).mono ?_; rintro e w2 ⟨rfl, ov2, hs2⟩)
   | (go_at_call_of 20 (Value.string ntx); refine (u_ C1 _ _ hs0).mono ?_; rintro e w1 ⟨rfl, ov1, hs1⟩; have y2_1 := hs1.c2))
 exact e36 rfl ⟨rfl, ov2, hs2.po, hs2.pr⟩
theorem sp41 (n : Nd) (hk : n.kind = 41) (ih : ∀ x ∈ n.kids, SpC x) (hf : ∀ x ∈ n.kids, fmP x) : ST 36 n (fun T => T ++ ([[123]] ++ joinT [44] ((n.kids).map tk) ++ [[125]])) := by
 intro v W0 w pb T ov ht hr hb hp hpo hz
 dsimp only at hz ⊢
 have hl := len_okP hr
 obtain ⟨a0, c0, hv0⟩ := RdK_slice hr
 have HR := h_ hr
 subst hv0
 have ST := h_ (Stt.start (n := n) (nv := .slice a0 n.kids.length c0) hb hpo 30)
 have C1 : Hid (SC W0 pb n (.slice a0 n.kids.length c0) w ov 34 [.string ⟨#[123]⟩, .slice a0 n.kids.length c0, .string ⟨#[44]⟩, .string ⟨#[125]⟩] (T) (T ++ ([[123]] ++ joinT [44] ((n.kids).map tk) ++ [[125]]))) := h_ (stt_around hp ih hf ⟨#[123]⟩ ⟨#[44]⟩ ⟨#[125]⟩ [123] [44] [125] rfl rfl rfl hr hz)
 unfold ndV
 have HK := h_ hk
 have hs0 := u_ ST
 have y0_0 := hs0.c0
 have y1_0 := hs0.c1
 have y2_0 := hs0.c2
 clear ST ht hb hpo hz hr
 rw [hk] at hs0 y0_0 y1_0 y2_0  ⊢
 generalize hnt : n.text = ntx at *
 go_enter Tryz.func36, Tryz.ntmps36
 go_wp2_with (first
   | (go_at_call 34; refine (u_ C1 _ _ hs0).mono ?_; rintro e w1 ⟨rfl, ov1, hs1⟩))
 exact e36 rfl ⟨rfl, ov1, hs1.po, hs1.pr⟩
theorem sp42 (n : Nd) (x : Nd) (y : Nd) (hk : n.kind = 42) (hks : n.kids = [x, y]) (ix : SpC x) (qx : fmP x) (iy : SpC y) (qy : fmP y) : ST 36 n (fun T => T ++ [[123]] ++ tk x ++ ([[123]] ++ joinT [] (([y]).map tk) ++ [[125]]) ++ [[125]]) := by
 intro v W0 w pb T ov ht hr hb hp hpo hz
 dsimp only at hz ⊢
 have hl := len_okP hr
 rcases RdK_cases hr with ⟨h0, _⟩ | ⟨b, o, c, vs, hv, hn, hcs⟩
 · rw [hks] at h0; cases h0
 subst hv
 have hcap := RdK_cap hr
 obtain ⟨kx1, kx2, kx3, tx, rx⟩ := hcs 0 x (by rw [hks]; rfl)
 obtain ⟨ax, cx, hvx⟩ := RdK_slice rx
 rw [hvx] at kx3 rx
 obtain ⟨ky1, ky2, ky3, ty, ry⟩ := hcs 1 y (by rw [hks]; rfl)
 obtain ⟨ay, cy, hvy⟩ := RdK_slice ry
 rw [hvy] at ky3 ry
 simp only [Nat.zero_mul, Nat.add_zero, Nat.one_mul] at kx1 kx2 kx3 ky1 ky2 ky3
 rw [hks] at hcap hr
 have hlen : n.kids.length = 2 := by rw [hks]; rfl
 rw [hlen]
 have hr1 : RdK W0 [y] (.slice (some ⟨b, o + 3, none⟩) 1 (c - 1)) := by
   have := RdK_drop hr 1 (by simp) (c - 1) (by simp at hcap ⊢; omega)
   simpa using this
 have hc1 : ¬ c = 1 := by simp at hcap; omega
 have hc2 : 2 ≤ c := by simp at hcap; omega
 have ST := h_ (Stt.start (n := n) (nv := .slice (some ⟨b, o, none⟩) 2 c) hb hpo 30)
 have C1 : Hid (SC W0 pb n (.slice (some ⟨b, o, none⟩) 2 c) w ov 20 [.string ⟨#[123]⟩] (T) (T ++ [[123]])) := h_ (stt_put hp ⟨#[123]⟩ [123] rfl (by simp only [sizeT_app] at hz ⊢; omega))
 have C2 : Hid (SC W0 pb n (.slice (some ⟨b, o, none⟩) 2 c) w ov 21 [.agg #[.int .i64 x.kind, .string x.text, .slice ax x.kids.length cx]] (T ++ [[123]]) (T ++ [[123]] ++ tk x)) := h_ (stt_node hp ix qx tx rx (by simp only [sizeT_app] at hz ⊢; omega))
 have C3 : Hid (SC W0 pb n (.slice (some ⟨b, o, none⟩) 2 c) w ov 34 [.string ⟨#[123]⟩, .slice (some ⟨b, o + 3, none⟩) 1 (c - 1), .string ⟨#[]⟩, .string ⟨#[125]⟩] (T ++ [[123]] ++ tk x) (T ++ [[123]] ++ tk x ++ ([[123]] ++ joinT [] (([y]).map tk) ++ [[125]]))) := h_ (stt_around hp (fun z hz => by simp only [List.mem_cons, List.mem_nil_iff, or_false] at hz; subst hz; assumption) (fun z hz => by simp only [List.mem_cons, List.mem_nil_iff, or_false] at hz; subst hz; assumption) ⟨#[123]⟩ ⟨#[]⟩ ⟨#[125]⟩ [123] [] [125] rfl rfl rfl hr1 (by simp only [sizeT_app] at hz ⊢; omega))
 have C4 : Hid (SC W0 pb n (.slice (some ⟨b, o, none⟩) 2 c) w ov 20 [.string ⟨#[125]⟩] (T ++ [[123]] ++ tk x ++ ([[123]] ++ joinT [] (([y]).map tk) ++ [[125]])) (T ++ [[123]] ++ tk x ++ ([[123]] ++ joinT [] (([y]).map tk) ++ [[125]]) ++ [[125]])) := h_ (stt_put hp ⟨#[125]⟩ [125] rfl hz)
 have HKx1 := h_ kx1
 have HKx2 := h_ kx2
 have HKx3 := h_ kx3
 have HKy1 := h_ ky1
 have HKy2 := h_ ky2
 have HKy3 := h_ ky3
 unfold ndV
 have HK := h_ hk
 have hs0 := u_ ST
 have y0_0 := hs0.c0
 have y1_0 := hs0.c1
 have y2_0 := hs0.c2
 have mx1_0 := c_ hs0.b kx1
 have mx2_0 := c_ hs0.b kx2
 have mx3_0 := c_ hs0.b kx3
 have my1_0 := c_ hs0.b ky1
 have my2_0 := c_ hs0.b ky2
 have my3_0 := c_ hs0.b ky3
 clear ST ht hb hpo hz hr hcs rx kx1 kx2 kx3 ix qx ry ky1 ky2 ky3 iy qy
 rw [hk] at hs0 y0_0 y1_0 y2_0 mx1_0 mx2_0 mx3_0 my1_0 my2_0 my3_0 ⊢
 generalize hnt : n.text = ntx at *
 generalize x.kind = xk at *
 generalize x.text = xt at *
 generalize y.kind = yk at *
 generalize y.text = yt at *
 go_enter Tryz.func36, Tryz.ntmps36
 go_wp2_with (first
   | (go_at_call_of 20 (Value.string ⟨#[125]⟩); refine (u_ C4 _ _ hs3).mono ?_; rintro e w4 ⟨rfl, ov4, hs4⟩)
   | (go_at_call 34; refine (u_ C3 _ _ hs2).mono ?_; rintro e w3 ⟨rfl, ov3, hs3⟩)
   | (go_at_call_of 21 (Value.agg #[Value.int IntKind.i64 xk, Value.string xt, Value.slice ax x.kids.length cx]); refine (u_ C2 _ _ hs1).mono ?_; rintro e w2 ⟨rfl, ov2, hs2⟩; have y2_2 := hs2.c2)
   | (go_at_call_of 20 (Value.string ⟨#[123]⟩); refine (u_ C1 _ _ hs0).mono ?_; rintro e w1 ⟨rfl, ov1, hs1⟩; have y2_1 := hs1.c2; have mx1_1 := c_ hs1.b (u_ HKx1); have mx2_1 := c_ hs1.b (u_ HKx2); have mx3_1 := c_ hs1.b (u_ HKx3)))
 exact e36 rfl ⟨rfl, ov4, hs4.po, hs4.pr⟩
theorem sp43 (n : Nd) (x : Nd) (hk : n.kind = 43) (hks : n.kids = [x]) (ix : SpC x) (qx : fmP x) : ST 36 n (fun T => T ++ [[115, 105, 103, 110, 101, 100]] ++ ([[40]] ++ joinT [] (([x]).map tk) ++ [[41]])) := by
 intro v W0 w pb T ov ht hr hb hp hpo hz
 dsimp only at hz ⊢
 have hl := len_okP hr
 rcases RdK_cases hr with ⟨h0, _⟩ | ⟨b, o, c, vs, hv, hn, hcs⟩
 · rw [hks] at h0; cases h0
 subst hv
 have hcap := RdK_cap hr
 obtain ⟨kx1, kx2, kx3, tx, rx⟩ := hcs 0 x (by rw [hks]; rfl)
 obtain ⟨ax, cx, hvx⟩ := RdK_slice rx
 rw [hvx] at kx3 rx
 simp only [Nat.zero_mul, Nat.add_zero] at kx1 kx2 kx3
 rw [hks] at hcap hr
 have hlen : n.kids.length = 1 := by rw [hks]; rfl
 rw [hlen]
 have ST := h_ (Stt.start (n := n) (nv := .slice (some ⟨b, o, none⟩) 1 c) hb hpo 30)
 have C1 : Hid (SC W0 pb n (.slice (some ⟨b, o, none⟩) 1 c) w ov 20 [.string ⟨#[115, 105, 103, 110, 101, 100]⟩] (T) (T ++ [[115, 105, 103, 110, 101, 100]])) := h_ (stt_put hp ⟨#[115, 105, 103, 110, 101, 100]⟩ [115, 105, 103, 110, 101, 100] rfl (by simp only [sizeT_app] at hz ⊢; omega))
 have C2 : Hid (SC W0 pb n (.slice (some ⟨b, o, none⟩) 1 c) w ov 34 [.string ⟨#[40]⟩, .slice (some ⟨b, o, none⟩) 1 c, .string ⟨#[]⟩, .string ⟨#[41]⟩] (T ++ [[115, 105, 103, 110, 101, 100]]) (T ++ [[115, 105, 103, 110, 101, 100]] ++ ([[40]] ++ joinT [] (([x]).map tk) ++ [[41]]))) := h_ (stt_around hp (fun z hz => by simp only [List.mem_cons, List.mem_nil_iff, or_false] at hz; subst hz; assumption) (fun z hz => by simp only [List.mem_cons, List.mem_nil_iff, or_false] at hz; subst hz; assumption) ⟨#[40]⟩ ⟨#[]⟩ ⟨#[41]⟩ [40] [] [41] rfl rfl rfl hr hz)
 have HKx1 := h_ kx1
 have HKx2 := h_ kx2
 have HKx3 := h_ kx3
 unfold ndV
 have HK := h_ hk
 have hs0 := u_ ST
 have y0_0 := hs0.c0
 have y1_0 := hs0.c1
 have y2_0 := hs0.c2
 have mx1_0 := c_ hs0.b kx1
 have mx2_0 := c_ hs0.b kx2
 have mx3_0 := c_ hs0.b kx3
 clear ST ht hb hpo hz hr hcs rx kx1 kx2 kx3 ix qx
 rw [hk] at hs0 y0_0 y1_0 y2_0 mx1_0 mx2_0 mx3_0 ⊢
 generalize hnt : n.text = ntx at *
 generalize x.kind = xk at *
 generalize x.text = xt at *
 go_enter Tryz.func36, Tryz.ntmps36
 go_wp2_with (first
   | (go_at_call 34; refine (u_ C2 _ _ hs1).mono ?_; rintro e w2 ⟨rfl, ov2, hs2⟩)
   | (go_at_call_of 20 (Value.string ⟨#[115, 105, 103, 110, 101, 100]⟩); refine (u_ C1 _ _ hs0).mono ?_; rintro e w1 ⟨rfl, ov1, hs1⟩; have y2_1 := hs1.c2))
 exact e36 rfl ⟨rfl, ov2, hs2.po, hs2.pr⟩
theorem sp44 (n : Nd) (x : Nd) (hk : n.kind = 44) (hks : n.kids = [x]) (ix : SpC x) (qx : fmP x) : ST 36 n (fun T => T ++ [[117, 110, 115, 105, 103, 110, 101, 100]] ++ ([[40]] ++ joinT [] (([x]).map tk) ++ [[41]])) := by
 intro v W0 w pb T ov ht hr hb hp hpo hz
 dsimp only at hz ⊢
 have hl := len_okP hr
 rcases RdK_cases hr with ⟨h0, _⟩ | ⟨b, o, c, vs, hv, hn, hcs⟩
 · rw [hks] at h0; cases h0
 subst hv
 have hcap := RdK_cap hr
 obtain ⟨kx1, kx2, kx3, tx, rx⟩ := hcs 0 x (by rw [hks]; rfl)
 obtain ⟨ax, cx, hvx⟩ := RdK_slice rx
 rw [hvx] at kx3 rx
 simp only [Nat.zero_mul, Nat.add_zero] at kx1 kx2 kx3
 rw [hks] at hcap hr
 have hlen : n.kids.length = 1 := by rw [hks]; rfl
 rw [hlen]
 have ST := h_ (Stt.start (n := n) (nv := .slice (some ⟨b, o, none⟩) 1 c) hb hpo 30)
 have C1 : Hid (SC W0 pb n (.slice (some ⟨b, o, none⟩) 1 c) w ov 20 [.string ⟨#[117, 110, 115, 105, 103, 110, 101, 100]⟩] (T) (T ++ [[117, 110, 115, 105, 103, 110, 101, 100]])) := h_ (stt_put hp ⟨#[117, 110, 115, 105, 103, 110, 101, 100]⟩ [117, 110, 115, 105, 103, 110, 101, 100] rfl (by simp only [sizeT_app] at hz ⊢; omega))
 have C2 : Hid (SC W0 pb n (.slice (some ⟨b, o, none⟩) 1 c) w ov 34 [.string ⟨#[40]⟩, .slice (some ⟨b, o, none⟩) 1 c, .string ⟨#[]⟩, .string ⟨#[41]⟩] (T ++ [[117, 110, 115, 105, 103, 110, 101, 100]]) (T ++ [[117, 110, 115, 105, 103, 110, 101, 100]] ++ ([[40]] ++ joinT [] (([x]).map tk) ++ [[41]]))) := h_ (stt_around hp (fun z hz => by simp only [List.mem_cons, List.mem_nil_iff, or_false] at hz; subst hz; assumption) (fun z hz => by simp only [List.mem_cons, List.mem_nil_iff, or_false] at hz; subst hz; assumption) ⟨#[40]⟩ ⟨#[]⟩ ⟨#[41]⟩ [40] [] [41] rfl rfl rfl hr hz)
 have HKx1 := h_ kx1
 have HKx2 := h_ kx2
 have HKx3 := h_ kx3
 unfold ndV
 have HK := h_ hk
 have hs0 := u_ ST
 have y0_0 := hs0.c0
 have y1_0 := hs0.c1
 have y2_0 := hs0.c2
 have mx1_0 := c_ hs0.b kx1
 have mx2_0 := c_ hs0.b kx2
 have mx3_0 := c_ hs0.b kx3
 clear ST ht hb hpo hz hr hcs rx kx1 kx2 kx3 ix qx
 rw [hk] at hs0 y0_0 y1_0 y2_0 mx1_0 mx2_0 mx3_0 ⊢
 generalize hnt : n.text = ntx at *
 generalize x.kind = xk at *
 generalize x.text = xt at *
 go_enter Tryz.func36, Tryz.ntmps36
 go_wp2_with (first
   | (go_at_call 34; refine (u_ C2 _ _ hs1).mono ?_; rintro e w2 ⟨rfl, ov2, hs2⟩)
   | (go_at_call_of 20 (Value.string ⟨#[117, 110, 115, 105, 103, 110, 101, 100]⟩); refine (u_ C1 _ _ hs0).mono ?_; rintro e w1 ⟨rfl, ov1, hs1⟩; have y2_1 := hs1.c2))
 exact e36 rfl ⟨rfl, ov2, hs2.po, hs2.pr⟩
theorem sp45 (n : Nd) (x : Nd) (hk : n.kind = 45) (hks : n.kids = [x]) (ix : SpC x) (qx : fmP x) : ST 36 n (fun T => T ++ [[40]] ++ [L n.text] ++ tk x ++ [[41]]) := by
 intro v W0 w pb T ov ht hr hb hp hpo hz
 dsimp only at hz ⊢
 have hl := len_okP hr
 rcases RdK_cases hr with ⟨h0, _⟩ | ⟨b, o, c, vs, hv, hn, hcs⟩
 · rw [hks] at h0; cases h0
 subst hv
 have hcap := RdK_cap hr
 obtain ⟨kx1, kx2, kx3, tx, rx⟩ := hcs 0 x (by rw [hks]; rfl)
 obtain ⟨ax, cx, hvx⟩ := RdK_slice rx
 rw [hvx] at kx3 rx
 simp only [Nat.zero_mul, Nat.add_zero] at kx1 kx2 kx3
 rw [hks] at hcap hr
 have hlen : n.kids.length = 1 := by rw [hks]; rfl
 rw [hlen]
 have ST := h_ (Stt.start (n := n) (nv := .slice (some ⟨b, o, none⟩) 1 c) hb hpo 30)
 have C1 : Hid (SC W0 pb n (.slice (some ⟨b, o, none⟩) 1 c) w ov 20 [.string ⟨#[40]⟩] (T) (T ++ [[40]])) := h_ (stt_put hp ⟨#[40]⟩ [40] rfl (by simp only [sizeT_app] at hz ⊢; omega))
 have C2 : Hid (SC W0 pb n (.slice (some ⟨b, o, none⟩) 1 c) w ov 20 [.string n.text] (T ++ [[40]]) (T ++ [[40]] ++ [L n.text])) := h_ (stt_put hp n.text (L n.text) rfl (by simp only [sizeT_app] at hz ⊢; omega))
 have C3 : Hid (SC W0 pb n (.slice (some ⟨b, o, none⟩) 1 c) w ov 21 [.agg #[.int .i64 x.kind, .string x.text, .slice ax x.kids.length cx]] (T ++ [[40]] ++ [L n.text]) (T ++ [[40]] ++ [L n.text] ++ tk x)) := h_ (stt_node hp ix qx tx rx (by simp only [sizeT_app] at hz ⊢; omega))
 have C4 : Hid (SC W0 pb n (.slice (some ⟨b, o, none⟩) 1 c) w ov 20 [.string ⟨#[41]⟩] (T ++ [[40]] ++ [L n.text] ++ tk x) (T ++ [[40]] ++ [L n.text] ++ tk x ++ [[41]])) := h_ (stt_put hp ⟨#[41]⟩ [41] rfl hz)
 have HKx1 := h_ kx1
 have HKx2 := h_ kx2
 have HKx3 := h_ kx3
 unfold ndV
 have HK := h_ hk
 have hs0 := u_ ST
 have y0_0 := hs0.c0
 have y1_0 := hs0.c1
 have y2_0 := hs0.c2
 have mx1_0 := c_ hs0.b kx1
 have mx2_0 := c_ hs0.b kx2
 have mx3_0 := c_ hs0.b kx3
 clear ST ht hb hpo hz hr hcs rx kx1 kx2 kx3 ix qx
 rw [hk] at hs0 y0_0 y1_0 y2_0 mx1_0 mx2_0 mx3_0 ⊢
 generalize hnt : n.text = ntx at *
 generalize x.kind = xk at *
 generalize x.text = xt at *
 go_enter Tryz.func36, Tryz.ntmps36
 go_wp2_with (first
   | (go_at_call_of 20 (Value.string ⟨#[41]⟩); refine (u_ C4 _ _ hs3).mono ?_; rintro e w4 ⟨rfl, ov4, hs4⟩)
   | (go_at_call_of 21 (Value.agg #[Value.int IntKind.i64 xk, Value.string xt, Value.slice ax x.kids.length cx]); refine (u_ C3 _ _ hs2).mono ?_; rintro e w3 ⟨rfl, ov3, hs3⟩)
   | (go_at_call_of 20 (Value.string ntx); refine (u_ C2 _ _ hs1).mono ?_; rintro e w2 ⟨rfl, ov2, hs2⟩; have y2_2 := hs2.c2; have mx1_2 := c_ hs2.b (u_ HKx1); have mx2_2 := c_ hs2.b (u_ HKx2); have mx3_2 := c_ hs2.b (u_ HKx3))
   | (go_at_call_of 20 (Value.string ⟨#[40]⟩); refine (u_ C1 _ _ hs0).mono ?_; rintro e w1 ⟨rfl, ov1, hs1⟩; have y1_1 := hs1.c1; have y2_1 := hs1.c2; rw [hnt] at y1_1; have mx1_1 := c_ hs1.b (u_ HKx1); have mx2_1 := c_ hs1.b (u_ HKx2); have mx3_1 := c_ hs1.b (u_ HKx3)))
 exact e36 rfl ⟨rfl, ov4, hs4.po, hs4.pr⟩
theorem sp46 (n : Nd) (x : Nd) (y : Nd) (hk : n.kind = 46) (hks : n.kids = [x, y]) (ix : SpC x) (qx : fmP x) (iy : SpC y) (qy : fmP y) : ST 36 n (fun T => T ++ [[40]] ++ tk x ++ [L n.text] ++ tk y ++ [[41]]) := by
 intro v W0 w pb T ov ht hr hb hp hpo hz
 dsimp only at hz ⊢
 have hl := len_okP hr
 rcases RdK_cases hr with ⟨h0, _⟩ | ⟨b, o, c, vs, hv, hn, hcs⟩
 · rw [hks] at h0; cases h0
 subst hv
 have hcap := RdK_cap hr
 obtain ⟨kx1, kx2, kx3, tx, rx⟩ := hcs 0 x (by rw [hks]; rfl)
 obtain ⟨ax, cx, hvx⟩ := RdK_slice rx
 rw [hvx] at kx3 rx
 obtain ⟨ky1, ky2, ky3, ty, ry⟩ := hcs 1 y (by rw [hks]; rfl)
 obtain ⟨ay, cy, hvy⟩ := RdK_slice ry
 rw [hvy] at ky3 ry
 simp only [Nat.zero_mul, Nat.add_zero, Nat.one_mul] at kx1 kx2 kx3 ky1 ky2 ky3
 rw [hks] at hcap hr
 have hlen : n.kids.length = 2 := by rw [hks]; rfl
 rw [hlen]
 have ST := h_ (Stt.start (n := n) (nv := .slice (some ⟨b, o, none⟩) 2 c) hb hpo 30)
 have C1 : Hid (SC W0 pb n (.slice (some ⟨b, o, none⟩) 2 c) w ov 20 [.string ⟨#[40]⟩] (T) (T ++ [[40]])) := h_ (stt_put hp ⟨#[40]⟩ [40] rfl (by simp only [sizeT_app] at hz ⊢; omega))
 have C2 : Hid (SC W0 pb n (.slice (some ⟨b, o, none⟩) 2 c) w ov 21 [.agg #[.int .i64 x.kind, .string x.text, .slice ax x.kids.length cx]] (T ++ [[40]]) (T ++ [[40]] ++ tk x)) := h_ (stt_node hp ix qx tx rx (by simp only [sizeT_app] at hz ⊢; omega))
 have C3 : Hid (SC W0 pb n (.slice (some ⟨b, o, none⟩) 2 c) w ov 20 [.string n.text] (T ++ [[40]] ++ tk x) (T ++ [[40]] ++ tk x ++ [L n.text])) := h_ (stt_put hp n.text (L n.text) rfl (by simp only [sizeT_app] at hz ⊢; omega))
 have C4 : Hid (SC W0 pb n (.slice (some ⟨b, o, none⟩) 2 c) w ov 21 [.agg #[.int .i64 y.kind, .string y.text, .slice ay y.kids.length cy]] (T ++ [[40]] ++ tk x ++ [L n.text]) (T ++ [[40]] ++ tk x ++ [L n.text] ++ tk y)) := h_ (stt_node hp iy qy ty ry (by simp only [sizeT_app] at hz ⊢; omega))
 have C5 : Hid (SC W0 pb n (.slice (some ⟨b, o, none⟩) 2 c) w ov 20 [.string ⟨#[41]⟩] (T ++ [[40]] ++ tk x ++ [L n.text] ++ tk y) (T ++ [[40]] ++ tk x ++ [L n.text] ++ tk y ++ [[41]])) := h_ (stt_put hp ⟨#[41]⟩ [41] rfl hz)
 have HKx1 := h_ kx1
 have HKx2 := h_ kx2
 have HKx3 := h_ kx3
 have HKy1 := h_ ky1
 have HKy2 := h_ ky2
 have HKy3 := h_ ky3
 unfold ndV
 have HK := h_ hk
 have hs0 := u_ ST
 have y0_0 := hs0.c0
 have y1_0 := hs0.c1
 have y2_0 := hs0.c2
 have mx1_0 := c_ hs0.b kx1
 have mx2_0 := c_ hs0.b kx2
 have mx3_0 := c_ hs0.b kx3
 have my1_0 := c_ hs0.b ky1
 have my2_0 := c_ hs0.b ky2
 have my3_0 := c_ hs0.b ky3
 clear ST ht hb hpo hz hr hcs rx kx1 kx2 kx3 ix qx ry ky1 ky2 ky3 iy qy
 rw [hk] at hs0 y0_0 y1_0 y2_0 mx1_0 mx2_0 mx3_0 my1_0 my2_0 my3_0 ⊢
 generalize hnt : n.text = ntx at *
 generalize x.kind = xk at *
 generalize x.text = xt at *
 generalize y.kind = yk at *
 generalize y.text = yt at *
 go_enter Tryz.func36, Tryz.ntmps36
 go_wp2_with (first
   | (go_at_call_of 20 (Value.string ⟨#[41]⟩); refine (u_ C5 _ _ hs4).mono ?_; rintro e w5 ⟨rfl, ov5, hs5⟩)
   | (go_at_call_of 21 (Value.agg #[Value.int IntKind.i64 yk, Value.string yt, Value.slice ay y.kids.length cy]); refine (u_ C4 _ _ hs3).mono ?_; rintro e w4 ⟨rfl, ov4, hs4⟩)
   | (go_at_call_of 20 (Value.string ntx); refine (u_ C3 _ _ hs2).mono ?_; rintro e w3 ⟨rfl, ov3, hs3⟩; have y2_3 := hs3.c2; have my1_3 := c_ hs3.b (u_ HKy1); have my2_3 := c_ hs3.b (u_ HKy2); have my3_3 := c_ hs3.b (u_ HKy3))
   | (go_at_call_of 21 (Value.agg #[Value.int IntKind.i64 xk, Value.string xt, Value.slice ax x.kids.length cx]); refine (u_ C2 _ _ hs1).mono ?_; rintro e w2 ⟨rfl, ov2, hs2⟩; have y1_2 := hs2.c1; have y2_2 := hs2.c2; rw [hnt] at y1_2; have my1_2 := c_ hs2.b (u_ HKy1); have my2_2 := c_ hs2.b (u_ HKy2); have my3_2 := c_ hs2.b (u_ HKy3))
   | (go_at_call_of 20 (Value.string ⟨#[40]⟩); refine (u_ C1 _ _ hs0).mono ?_; rintro e w1 ⟨rfl, ov1, hs1⟩; have y1_1 := hs1.c1; have y2_1 := hs1.c2; rw [hnt] at y1_1; have mx1_1 := c_ hs1.b (u_ HKx1); have mx2_1 := c_ hs1.b (u_ HKx2); have mx3_1 := c_ hs1.b (u_ HKx3); have my1_1 := c_ hs1.b (u_ HKy1); have my2_1 := c_ hs1.b (u_ HKy2); have my3_1 := c_ hs1.b (u_ HKy3)))
 exact e36 rfl ⟨rfl, ov5, hs5.po, hs5.pr⟩
theorem sp47 (n : Nd) (x : Nd) (y : Nd) (z : Nd) (hk : n.kind = 47) (hks : n.kids = [x, y, z]) (ix : SpC x) (qx : fmP x) (iy : SpC y) (qy : fmP y) (iz : SpC z) (qz : fmP z) : ST 36 n (fun T => T ++ [[40]] ++ tk x ++ [[63]] ++ tk y ++ [[58]] ++ tk z ++ [[41]]) := by
 intro v W0 w pb T ov ht hr hb hp hpo hz
 dsimp only at hz ⊢
 have hl := len_okP hr
 rcases RdK_cases hr with ⟨h0, _⟩ | ⟨b, o, c, vs, hv, hn, hcs⟩
 · rw [hks] at h0; cases h0
 subst hv
 have hcap := RdK_cap hr
 obtain ⟨kx1, kx2, kx3, tx, rx⟩ := hcs 0 x (by rw [hks]; rfl)
 obtain ⟨ax, cx, hvx⟩ := RdK_slice rx
 rw [hvx] at kx3 rx
 obtain ⟨ky1, ky2, ky3, ty, ry⟩ := hcs 1 y (by rw [hks]; rfl)
 obtain ⟨ay, cy, hvy⟩ := RdK_slice ry
 rw [hvy] at ky3 ry
 obtain ⟨kz1, kz2, kz3, tz, rz⟩ := hcs 2 z (by rw [hks]; rfl)
 obtain ⟨az, cz, hvz⟩ := RdK_slice rz
 rw [hvz] at kz3 rz
 simp only [Nat.zero_mul, Nat.add_zero, Nat.one_mul] at kx1 kx2 kx3 ky1 ky2 ky3 kz1 kz2 kz3
 rw [hks] at hcap hr
 have hlen : n.kids.length = 3 := by rw [hks]; rfl
 rw [hlen]
 have ST := h_ (Stt.start (n := n) (nv := .slice (some ⟨b, o, none⟩) 3 c) hb hpo 30)
 have C1 : Hid (SC W0 pb n (.slice (some ⟨b, o, none⟩) 3 c) w ov 20 [.string ⟨#[40]⟩] (T) (T ++ [[40]])) := h_ (stt_put hp ⟨#[40]⟩ [40] rfl (by simp only [sizeT_app] at hz ⊢; omega))
 have C2 : Hid (SC W0 pb n (.slice (some ⟨b, o, none⟩) 3 c) w ov 21 [.agg #[.int .i64 x.kind, .string x.text, .slice ax x.kids.length cx]] (T ++ [[40]]) (T ++ [[40]] ++ tk x)) := h_ (stt_node hp ix qx tx rx (by simp only [sizeT_app] at hz ⊢; omega))
 have C3 : Hid (SC W0 pb n (.slice (some ⟨b, o, none⟩) 3 c) w ov 20 [.string ⟨#[63]⟩] (T ++ [[40]] ++ tk x) (T ++ [[40]] ++ tk x ++ [[63]])) := h_ (stt_put hp ⟨#[63]⟩ [63] rfl (by simp only [sizeT_app] at hz ⊢; omega))
 have C4 : Hid (SC W0 pb n (.slice (some ⟨b, o, none⟩) 3 c) w ov 21 [.agg #[.int .i64 y.kind, .string y.text, .slice ay y.kids.length cy]] (T ++ [[40]] ++ tk x ++ [[63]]) (T ++ [[40]] ++ tk x ++ [[63]] ++ tk y)) := h_ (stt_node hp iy qy ty ry (by simp only [sizeT_app] at hz ⊢; omega))
 have C5 : Hid (SC W0 pb n (.slice (some ⟨b, o, none⟩) 3 c) w ov 20 [.string ⟨#[58]⟩] (T ++ [[40]] ++ tk x ++ [[63]] ++ tk y) (T ++ [[40]] ++ tk x ++ [[63]] ++ tk y ++ [[58]])) := h_ (stt_put hp ⟨#[58]⟩ [58] rfl (by simp only [sizeT_app] at hz ⊢; omega))
 have C6 : Hid (SC W0 pb n (.slice (some ⟨b, o, none⟩) 3 c) w ov 21 [.agg #[.int .i64 z.kind, .string z.text, .slice az z.kids.length cz]] (T ++ [[40]] ++ tk x ++ [[63]] ++ tk y ++ [[58]]) (T ++ [[40]] ++ tk x ++ [[63]] ++ tk y ++ [[58]] ++ tk z)) := h_ (stt_node hp iz qz tz rz (by simp only [sizeT_app] at hz ⊢; omega))
 have C7 : Hid (SC W0 pb n (.slice (some ⟨b, o, none⟩) 3 c) w ov 20 [.string ⟨#[41]⟩] (T ++ [[40]] ++ tk x ++ [[63]] ++ tk y ++ [[58]] ++ tk z) (T ++ [[40]] ++ tk x ++ [[63]] ++ tk y ++ [[58]] ++ tk z ++ [[41]])) := h_ (stt_put hp ⟨#[41]⟩ [41] rfl hz)
 have HKx1 := h_ kx1
 have HKx2 := h_ kx2
 have HKx3 := h_ kx3
 have HKy1 := h_ ky1
 have HKy2 := h_ ky2
 have HKy3 := h_ ky3
 have HKz1 := h_ kz1
 have HKz2 := h_ kz2
 have HKz3 := h_ kz3
 unfold ndV
 have HK := h_ hk
 have hs0 := u_ ST
 have y0_0 := hs0.c0
 have y1_0 := hs0.c1
 have y2_0 := hs0.c2
 have mx1_0 := c_ hs0.b kx1
 have mx2_0 := c_ hs0.b kx2
 have mx3_0 := c_ hs0.b kx3
 have my1_0 := c_ hs0.b ky1
 have my2_0 := c_ hs0.b ky2
 have my3_0 := c_ hs0.b ky3
 have mz1_0 := c_ hs0.b kz1
 have mz2_0 := c_ hs0.b kz2
 have mz3_0 := c_ hs0.b kz3
 clear ST ht hb hpo hz hr hcs rx kx1 kx2 kx3 ix qx ry ky1 ky2 ky3 iy qy rz kz1 kz2 kz3 iz qz
 rw [hk] at hs0 y0_0 y1_0 y2_0 mx1_0 mx2_0 mx3_0 my1_0 my2_0 my3_0 mz1_0 mz2_0 mz3_0 ⊢
 generalize hnt : n.text = ntx at *
 generalize x.kind = xk at *
 generalize x.text = xt at *
 generalize y.kind = yk at *
 generalize y.text = yt at *
 generalize z.kind = zk at *
 generalize z.text = zt at *
 go_enter Tryz.func36, Tryz.ntmps36
 go_wp2_with (first
   | (go_at_call_of 20 (Value.string ⟨#[41]⟩); refine (u_ C7 _ _ hs6).mono ?_; rintro e w7 ⟨rfl, ov7, hs7⟩)
   | (go_at_call_of 21 (Value.agg #[Value.int IntKind.i64 zk, Value.string zt, Value.slice az z.kids.length cz]); refine (u_ C6 _ _ hs5).mono ?_; rintro e w6 ⟨rfl, ov6, hs6⟩)
   | (go_at_call_of 20 (Value.string ⟨#[58]⟩); refine (u_ C5 _ _ hs4).mono ?_; rintro e w5 ⟨rfl, ov5, hs5⟩; have y2_5 := hs5.c2; have mz1_5 := c_ hs5.b (u_ HKz1); have mz2_5 := c_ hs5.b (u_ HKz2); have mz3_5 := c_ hs5.b (u_ HKz3))
   | (go_at_call_of 21 (Value.agg #[Value.int IntKind.i64 yk, Value.string yt, Value.slice ay y.kids.length cy]); refine (u_ C4 _ _ hs3).mono ?_; rintro e w4 ⟨rfl, ov4, hs4⟩; have y2_4 := hs4.c2; have mz1_4 := c_ hs4.b (u_ HKz1); have mz2_4 := c_ hs4.b (u_ HKz2); have mz3_4 := c_ hs4.b (u_ HKz3))
   | (go_at_call_of 20 (Value.string ⟨#[63]⟩); refine (u_ C3 _ _ hs2).mono ?_; rintro e w3 ⟨rfl, ov3, hs3⟩; have y2_3 := hs3.c2; have my1_3 := c_ hs3.b (u_ HKy1); have my2_3 := c_ hs3.b (u_ HKy2); have my3_3 := c_ hs3.b (u_ HKy3); have mz1_3 := c_ hs3.b (u_ HKz1); have mz2_3 := c_ hs3.b (u_ HKz2); have mz3_3 := c_ hs3.b (u_ HKz3))
   | (go_at_call_of 21 (Value.agg #[Value.int IntKind.i64 xk, Value.string xt, Value.slice ax x.kids.length cx]); refine (u_ C2 _ _ hs1).mono ?_; rintro e w2 ⟨rfl, ov2, hs2⟩; have y2_2 := hs2.c2; have my1_2 := c_ hs2.b (u_ HKy1); have my2_2 := c_ hs2.b (u_ HKy2); have my3_2 := c_ hs2.b (u_ HKy3); have mz1_2 := c_ hs2.b (u_ HKz1); have mz2_2 := c_ hs2.b (u_ HKz2); have mz3_2 := c_ hs2.b (u_ HKz3))
   | (go_at_call_of 20 (Value.string ⟨#[40]⟩); refine (u_ C1 _ _ hs0).mono ?_; rintro e w1 ⟨rfl, ov1, hs1⟩; have y2_1 := hs1.c2; have mx1_1 := c_ hs1.b (u_ HKx1); have mx2_1 := c_ hs1.b (u_ HKx2); have mx3_1 := c_ hs1.b (u_ HKx3); have my1_1 := c_ hs1.b (u_ HKy1); have my2_1 := c_ hs1.b (u_ HKy2); have my3_1 := c_ hs1.b (u_ HKy3); have mz1_1 := c_ hs1.b (u_ HKz1); have mz2_1 := c_ hs1.b (u_ HKz2); have mz3_1 := c_ hs1.b (u_ HKz3)))
 exact e36 rfl ⟨rfl, ov7, hs7.po, hs7.pr⟩
theorem sp36 (n : Nd) (hk : n.kind = 36) (hks : n.kids = [])  : ST 36 n (fun T => T ++ [L n.text]) := by
 intro v W0 w pb T ov ht hr hb hp hpo hz
 dsimp only at hz ⊢
 have hl := len_okP hr
 obtain ⟨a0, c0, hv0⟩ := RdK_slice hr
 have HR := h_ hr
 subst hv0
 have hlen : n.kids.length = 0 := by rw [hks]; rfl
 rw [hlen]
 have ST := h_ (Stt.start (n := n) (nv := .slice a0 0 c0) hb hpo 30)
 have C1 : Hid (SC W0 pb n (.slice a0 0 c0) w ov 20 [.string n.text] (T) (T ++ [L n.text])) := h_ (stt_put hp n.text (L n.text) rfl hz)
 unfold ndV
 have HK := h_ hk
 have hs0 := u_ ST
 have y0_0 := hs0.c0
 have y1_0 := hs0.c1
 have y2_0 := hs0.c2
 clear ST ht hb hpo hz hr
 rw [hk] at hs0 y0_0 y1_0 y2_0  ⊢
 generalize hnt : n.text = ntx at *
 go_enter Tryz.func36, Tryz.ntmps36
 go_wp2_with (first
   | (go_at_call_of 20 (Value.string ntx); refine (u_ C1 _ _ hs0).mono ?_; rintro e w1 ⟨rfl, ov1, hs1⟩))
 exact e36 rfl ⟨rfl, ov1, hs1.po, hs1.pr⟩
theorem sp37 (n : Nd) (hk : n.kind = 37) (hks : n.kids = [])  : ST 36 n (fun T => T ++ [L n.text]) := by
 intro v W0 w pb T ov ht hr hb hp hpo hz
 dsimp only at hz ⊢
 have hl := len_okP hr
 obtain ⟨a0, c0, hv0⟩ := RdK_slice hr
 have HR := h_ hr
 subst hv0
 have hlen : n.kids.length = 0 := by rw [hks]; rfl
 rw [hlen]
 have ST := h_ (Stt.start (n := n) (nv := .slice a0 0 c0) hb hpo 30)
 have C1 : Hid (SC W0 pb n (.slice a0 0 c0) w ov 20 [.string n.text] (T) (T ++ [L n.text])) := h_ (stt_put hp n.text (L n.text) rfl hz)
 unfold ndV
 have HK := h_ hk
 have hs0 := u_ ST
 have y0_0 := hs0.c0
 have y1_0 := hs0.c1
 have y2_0 := hs0.c2
 clear ST ht hb hpo hz hr
 rw [hk] at hs0 y0_0 y1_0 y2_0  ⊢
 generalize hnt : n.text = ntx at *
 go_enter Tryz.func36, Tryz.ntmps36
 go_wp2_with (first
   | (go_at_call_of 20 (Value.string ntx); refine (u_ C1 _ _ hs0).mono ?_; rintro e w1 ⟨rfl, ov1, hs1⟩))
 exact e36 rfl ⟨rfl, ov1, hs1.po, hs1.pr⟩
end Go.Proofs.YtddlokkejglckaaGreatDoor
