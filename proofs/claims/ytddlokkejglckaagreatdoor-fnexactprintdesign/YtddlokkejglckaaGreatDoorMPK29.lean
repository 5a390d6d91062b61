/- Parts of the proof: PK29 to NH6. -/
import Derived.Test.YtddlokkejglckaaGreatDoorMRP
import Derived.Test.YtddlokkejglckaaGreatDoorMNH1
import Derived.Test.YtddlokkejglckaaGreatDoorMPK19
import Derived.Test.YtddlokkejglckaaGreatDoorMPK27
import Derived.Test.YtddlokkejglckaaGreatDoorMPS13
import Derived.Test.YtddlokkejglckaaGreatDoorMPD1
namespace Go.Proofs.YtddlokkejglckaaGreatDoor
open Go.RowKit Nt
set_option maxHeartbeats 2000000
set_option linter.unusedVariables false
set_option maxRecDepth 100000
theorem ip2 (n : Nd) (x0 x1 : Nd) (hk : n.kind = 2) (ih : ∀ x ∈ n.kids, IpC x) (hf : ∀ x ∈ n.kids, fm x = true) (h0 : n.kids[0]? = some x0) (h1 : n.kids[1]? = some x1) : IpT 29 n (fun T => T ++ [[109, 111, 100, 117, 108, 101], L n.text] ++ tk x0 ++ tk x1 ++ joinT [] ((n.kids.drop 2).map tk) ++ [[101, 110, 100]]) := by
 intro v W0 w pb T ET ov hr hb hp hpi hE hz
 dsimp only at hE
 rcases RdK_cases hr with ⟨e0, _⟩ | ⟨b, o, c, vs, hv, hn, hcs⟩
 · rw [e0] at h0; cases h0
 subst hv
 have hcap := RdK_cap hr
 have l0 : 0 < n.kids.length := (List.getElem?_eq_some_iff.1 h0).1
 obtain ⟨p0, q0, r0, t0, k0⟩ := hcs 0 x0 h0
 obtain ⟨s0, d0, e0⟩ := RdK_slice k0
 rw [e0] at r0 k0
 have l1 : 1 < n.kids.length := (List.getElem?_eq_some_iff.1 h1).1
 obtain ⟨p1, q1, r1, t1, k1⟩ := hcs 1 x1 h1
 obtain ⟨s1, d1, e1⟩ := RdK_slice k1
 rw [e1] at r1 k1
 have m2 : 2 ≤ n.kids.length := by omega
 clear hcs
 have z5 := hz
 have zL := hE ▸ hz
 have z4 := pre_size (hE ▸ z5)
 have z3 := pre_size z4
 have z2 := pre_size z3
 have z1 := pre_size z2
 have HS := Sx.start (n := n) (nv := .slice (some ⟨b, o, none⟩) n.kids.length c) hb hpi
 have y0 := kind0 w n (.slice (some ⟨b, o, none⟩) n.kids.length c)
 clear hb hpi hz
 have HH := h_ (And.intro hr (And.intro HS (And.intro ih (And.intro hf (And.intro hE (And.intro z1 (And.intro z2 (And.intro z3 (And.intro z4 (And.intro z5 (And.intro zL (And.intro hn (And.intro hcap (And.intro l0 (And.intro p0 (And.intro q0 (And.intro r0 (And.intro t0 (And.intro k0 (And.intro l1 (And.intro p1 (And.intro q1 (And.intro r1 (And.intro t1 (And.intro k1 (And.intro m2 (And.intro h0 (h1))))))))))))))))))))))))))))
 clear hr HS ih hf hE z1 z2 z3 z4 z5 zL hn hcap l0 p0 q0 r0 t0 k0 l1 p1 q1 r1 t1 k1 m2 h0 h1
 unfold ndV
 rw [hk] at y0 HH ⊢
 go_enter Tryz.func29, Tryz.ntmps29
 go_wp2
 obtain ⟨hr, HS, ih, hf, hE, z1, z2, z3, z4, z5, zL, hn, hcap, l0, p0, q0, r0, t0, k0, l1, p1, q1, r1, t1, k1, m2, h0, h1⟩ := u_ HH
 refine region_prints [aP pb, aF w 1, aT n, .arr [[109, 111, 100, 117, 108, 101], L n.text], aP pb, aF w 2, aK n b o c, aI b o 0, aN x0 s0 d0, aP pb, aF w 2, aK n b o c, aI b o 1, aN x1 s1 d1, aP pb, aF w 2, aK n b o c, .val (dropV b o n.kids.length c 2), aP pb, .arr [[101, 110, 100]], aP pb] [4, 9, 14, 18, 20] [T, T ++ [[109, 111, 100, 117, 108, 101], L n.text], T ++ [[109, 111, 100, 117, 108, 101], L n.text] ++ tk x0, T ++ [[109, 111, 100, 117, 108, 101], L n.text] ++ tk x0 ++ tk x1, T ++ [[109, 111, 100, 117, 108, 101], L n.text] ++ tk x0 ++ tk x1 ++ joinT [] ((n.kids.drop 2).map tk), ET] 161 rfl (by kernel_rfl) (by kernel_rfl) HS ?_ ?_
 · simp only [PlanSteps]
   exact ⟨ps_move rfl rfl (Kn.old rfl rfl),
     ps_field rfl rfl (by decide) (Kn.old rfl rfl),
     ps_load9 rfl rfl (Kn.tmp 1 rfl rfl rfl) (fun w h => h.c1),
     ps_arr2 rfl rfl (Kn.const _) (Kn.tmp 2 rfl rfl rfl),
     ps_put 0 rfl (by decide) rfl rfl (Kn.tmp 0 rfl rfl rfl) (KnA.tmp 3 rfl rfl rfl) hp rfl z1,
     ps_field rfl rfl (by decide) (Kn.old rfl rfl),
     ps_load28 rfl rfl (Kn.tmp 5 rfl rfl rfl) (fun w h => h.c2),
     ps_index (i := 0) rfl rfl l0 hn (Kn.tmp 6 rfl rfl rfl) (Kn.const _),
     ps_load30 rfl rfl (Kn.tmp 7 rfl rfl rfl) (fun w h => h.far p0) (fun w h => h.far q0) (fun w h => h.far r0),
     ps_part 1 rfl (by decide) rfl rfl enters14 rfl (Kn.tmp 4 rfl rfl rfl) (Kn.tmp 8 rfl rfl rfl) (fun w h => sx_node hp (ih x0 (List.mem_of_getElem? h0)) (hf x0 (List.mem_of_getElem? h0)) t0 k0 z2 w h),
     ps_field rfl rfl (by decide) (Kn.old rfl rfl),
     ps_load28 rfl rfl (Kn.tmp 10 rfl rfl rfl) (fun w h => h.c2),
     ps_index (i := 1) rfl rfl l1 hn (Kn.tmp 11 rfl rfl rfl) (Kn.const _),
     ps_load30 rfl rfl (Kn.tmp 12 rfl rfl rfl) (fun w h => h.far p1) (fun w h => h.far q1) (fun w h => h.far r1),
     ps_part 2 rfl (by decide) rfl rfl enters14 rfl (Kn.tmp 9 rfl rfl rfl) (Kn.tmp 13 rfl rfl rfl) (fun w h => sx_node hp (ih x1 (List.mem_of_getElem? h1)) (hf x1 (List.mem_of_getElem? h1)) t1 k1 z3 w h),
     ps_field rfl rfl (by decide) (Kn.old rfl rfl),
     ps_load28 rfl rfl (Kn.tmp 15 rfl rfl rfl) (fun w h => h.c2),
     ps_drop (i := 2) rfl rfl m2 hcap (Kn.tmp 16 rfl rfl rfl),
     ps_part 3 rfl (by decide) rfl rfl enters43 rfl (Kn.tmp 14 rfl rfl rfl) (Kn.tmp 17 rfl rfl rfl) (fun w h => sx_nodes hp (fun x hx => ih x (List.mem_of_mem_drop hx)) (fun x hx => hf x (List.mem_of_mem_drop hx)) (RdK_dropV hr 2 m2) z4 w h),
     ps_arr1 rfl rfl (Kn.const _),
     ps_put 4 rfl (by decide) rfl rfl (Kn.tmp 18 rfl rfl rfl) (KnA.tmp 19 rfl rfl rfl) hp hE z5, trivial⟩
 · intro a w' _ hd hs
   have HF := h_ hs.fin
   clear hs HS y0 hE
   go_wp2
   exact e29 hd ⟨rfl, u_ HF⟩
theorem ip4 (n : Nd) (x0 : Nd) (hk : n.kind = 4) (ih : ∀ x ∈ n.kids, IpC x) (hf : ∀ x ∈ n.kids, fm x = true) (h0 : n.kids[0]? = some x0) : IpT 29 n (fun T => T ++ [L n.text, [61]] ++ tk x0) := by
 intro v W0 w pb T ET ov hr hb hp hpi hE hz
 dsimp only at hE
 rcases RdK_cases hr with ⟨e0, _⟩ | ⟨b, o, c, vs, hv, hn, hcs⟩
 · rw [e0] at h0; cases h0
 subst hv
 have hcap := RdK_cap hr
 have l0 : 0 < n.kids.length := (List.getElem?_eq_some_iff.1 h0).1
 obtain ⟨p0, q0, r0, t0, k0⟩ := hcs 0 x0 h0
 obtain ⟨s0, d0, e0⟩ := RdK_slice k0
 rw [e0] at r0 k0
 clear hcs
 have z2 := hz
 have zL := hE ▸ hz
 have z1 := pre_size (hE ▸ z2)
 have HS := Sx.start (n := n) (nv := .slice (some ⟨b, o, none⟩) n.kids.length c) hb hpi
 have y0 := kind0 w n (.slice (some ⟨b, o, none⟩) n.kids.length c)
 clear hb hpi hz
 have HH := h_ (And.intro hr (And.intro HS (And.intro ih (And.intro hf (And.intro hE (And.intro z1 (And.intro z2 (And.intro zL (And.intro hn (And.intro hcap (And.intro l0 (And.intro p0 (And.intro q0 (And.intro r0 (And.intro t0 (And.intro k0 (h0)))))))))))))))))
 clear hr HS ih hf hE z1 z2 zL hn hcap l0 p0 q0 r0 t0 k0 h0
 unfold ndV
 rw [hk] at y0 HH ⊢
 go_enter Tryz.func29, Tryz.ntmps29
 go_wp2
 obtain ⟨hr, HS, ih, hf, hE, z1, z2, zL, hn, hcap, l0, p0, q0, r0, t0, k0, h0⟩ := u_ HH
 refine region_prints [aP pb, aF w 1, aT n, .arr [L n.text, [61]], aP pb, aF w 2, aK n b o c, aI b o 0, aN x0 s0 d0, aP pb] [4, 9] [T, T ++ [L n.text, [61]], ET] 161 rfl (by kernel_rfl) (by kernel_rfl) HS ?_ ?_
 · simp only [PlanSteps]
   exact ⟨ps_move rfl rfl (Kn.old rfl rfl),
     ps_field rfl rfl (by decide) (Kn.old rfl rfl),
     ps_load9 rfl rfl (Kn.tmp 1 rfl rfl rfl) (fun w h => h.c1),
     ps_arr2 rfl rfl (Kn.tmp 2 rfl rfl rfl) (Kn.const _),
     ps_put 0 rfl (by decide) rfl rfl (Kn.tmp 0 rfl rfl rfl) (KnA.tmp 3 rfl rfl rfl) hp rfl z1,
     ps_field rfl rfl (by decide) (Kn.old rfl rfl),
     ps_load28 rfl rfl (Kn.tmp 5 rfl rfl rfl) (fun w h => h.c2),
     ps_index (i := 0) rfl rfl l0 hn (Kn.tmp 6 rfl rfl rfl) (Kn.const _),
     ps_load30 rfl rfl (Kn.tmp 7 rfl rfl rfl) (fun w h => h.far p0) (fun w h => h.far q0) (fun w h => h.far r0),
     ps_part 1 rfl (by decide) rfl rfl enters14 hE (Kn.tmp 4 rfl rfl rfl) (Kn.tmp 8 rfl rfl rfl) (fun w h => sx_node hp (ih x0 (List.mem_of_getElem? h0)) (hf x0 (List.mem_of_getElem? h0)) t0 k0 zL w h), trivial⟩
 · intro a w' _ hd hs
   have HF := h_ hs.fin
   clear hs HS y0 hE
   go_wp2
   exact e29 hd ⟨rfl, u_ HF⟩
theorem ip5 (n : Nd) (hk : n.kind = 5) (ih : ∀ x ∈ n.kids, IpC x) (hf : ∀ x ∈ n.kids, fm x = true) : IpT 29 n (fun T => T ++ [[40]] ++ joinT [44] (n.kids.map tk) ++ [[41]]) := by
 intro v W0 w pb T ET ov hr hb hp hpi hE hz
 dsimp only at hE
 obtain ⟨a', c', hv⟩ := RdK_slice hr
 subst hv
 have z3 := hz
 have zL := hE ▸ hz
 have z2 := pre_size (hE ▸ z3)
 have z1 := pre_size z2
 have HS := Sx.start (n := n) (nv := .slice a' n.kids.length c') hb hpi
 have y0 := kind0 w n (.slice a' n.kids.length c')
 clear hb hpi hz
 have HH := h_ (And.intro hr (And.intro HS (And.intro ih (And.intro hf (And.intro hE (And.intro z1 (And.intro z2 (And.intro z3 (zL)))))))))
 clear hr HS ih hf hE z1 z2 z3 zL
 unfold ndV
 rw [hk] at y0 HH ⊢
 go_enter Tryz.func29, Tryz.ntmps29
 go_wp2
 obtain ⟨hr, HS, ih, hf, hE, z1, z2, z3, zL⟩ := u_ HH
 refine region_prints [aP pb, .arr [[40]], aP pb, aF w 2, aS n a' c', aP pb, .arr [[41]], aP pb] [2, 5, 7] [T, T ++ [[40]], T ++ [[40]] ++ joinT [44] (n.kids.map tk), ET] 161 rfl (by kernel_rfl) (by kernel_rfl) HS ?_ ?_
 · simp only [PlanSteps]
   exact ⟨ps_move rfl rfl (Kn.old rfl rfl),
     ps_arr1 rfl rfl (Kn.const _),
     ps_put 0 rfl (by decide) rfl rfl (Kn.tmp 0 rfl rfl rfl) (KnA.tmp 1 rfl rfl rfl) hp rfl z1,
     ps_field rfl rfl (by decide) (Kn.old rfl rfl),
     ps_load28 rfl rfl (Kn.tmp 3 rfl rfl rfl) (fun w h => h.c2),
     ps_part 1 rfl (by decide) rfl rfl enters41 rfl (Kn.tmp 2 rfl rfl rfl) (Kn.tmp 4 rfl rfl rfl) (fun w h => sx_commas hp ih hf hr z2 w h),
     ps_arr1 rfl rfl (Kn.const _),
     ps_put 2 rfl (by decide) rfl rfl (Kn.tmp 5 rfl rfl rfl) (KnA.tmp 6 rfl rfl rfl) hp hE z3, trivial⟩
 · intro a w' _ hd hs
   have HF := h_ hs.fin
   clear hs HS y0 hE
   go_wp2
   exact e29 hd ⟨rfl, u_ HF⟩
theorem ip24 (n : Nd) (hk : n.kind = 24) (ih : ∀ x ∈ n.kids, IpC x) (hf : ∀ x ∈ n.kids, fm x = true) : IpT 29 n (fun T => T ++ [[40]] ++ joinT [44] (n.kids.map tk) ++ [[41]]) := by
 intro v W0 w pb T ET ov hr hb hp hpi hE hz
 dsimp only at hE
 obtain ⟨a', c', hv⟩ := RdK_slice hr
 subst hv
 have z3 := hz
 have zL := hE ▸ hz
 have z2 := pre_size (hE ▸ z3)
 have z1 := pre_size z2
 have HS := Sx.start (n := n) (nv := .slice a' n.kids.length c') hb hpi
 have y0 := kind0 w n (.slice a' n.kids.length c')
 clear hb hpi hz
 have HH := h_ (And.intro hr (And.intro HS (And.intro ih (And.intro hf (And.intro hE (And.intro z1 (And.intro z2 (And.intro z3 (zL)))))))))
 clear hr HS ih hf hE z1 z2 z3 zL
 unfold ndV
 rw [hk] at y0 HH ⊢
 go_enter Tryz.func29, Tryz.ntmps29
 go_wp2
 obtain ⟨hr, HS, ih, hf, hE, z1, z2, z3, zL⟩ := u_ HH
 refine region_prints [aP pb, .arr [[40]], aP pb, aF w 2, aS n a' c', aP pb, .arr [[41]], aP pb] [2, 5, 7] [T, T ++ [[40]], T ++ [[40]] ++ joinT [44] (n.kids.map tk), ET] 161 rfl (by kernel_rfl) (by kernel_rfl) HS ?_ ?_
 · simp only [PlanSteps]
   exact ⟨ps_move rfl rfl (Kn.old rfl rfl),
     ps_arr1 rfl rfl (Kn.const _),
     ps_put 0 rfl (by decide) rfl rfl (Kn.tmp 0 rfl rfl rfl) (KnA.tmp 1 rfl rfl rfl) hp rfl z1,
     ps_field rfl rfl (by decide) (Kn.old rfl rfl),
     ps_load28 rfl rfl (Kn.tmp 3 rfl rfl rfl) (fun w h => h.c2),
     ps_part 1 rfl (by decide) rfl rfl enters41 rfl (Kn.tmp 2 rfl rfl rfl) (Kn.tmp 4 rfl rfl rfl) (fun w h => sx_commas hp ih hf hr z2 w h),
     ps_arr1 rfl rfl (Kn.const _),
     ps_put 2 rfl (by decide) rfl rfl (Kn.tmp 5 rfl rfl rfl) (KnA.tmp 6 rfl rfl rfl) hp hE z3, trivial⟩
 · intro a w' _ hd hs
   have HF := h_ hs.fin
   clear hs HS y0 hE
   go_wp2
   exact e29 hd ⟨rfl, u_ HF⟩
theorem ip6 (n : Nd) (x0 : Nd) (hk : n.kind = 6) (ih : ∀ x ∈ n.kids, IpC x) (hf : ∀ x ∈ n.kids, fm x = true) (h0 : n.kids[0]? = some x0) : IpT 29 n (fun T => T ++ [[105, 110]] ++ tk x0 ++ [L n.text]) := by
 intro v W0 w pb T ET ov hr hb hp hpi hE hz
 dsimp only at hE
 rcases RdK_cases hr with ⟨e0, _⟩ | ⟨b, o, c, vs, hv, hn, hcs⟩
 · rw [e0] at h0; cases h0
 subst hv
 have hcap := RdK_cap hr
 have l0 : 0 < n.kids.length := (List.getElem?_eq_some_iff.1 h0).1
 obtain ⟨p0, q0, r0, t0, k0⟩ := hcs 0 x0 h0
 obtain ⟨s0, d0, e0⟩ := RdK_slice k0
 rw [e0] at r0 k0
 clear hcs
 have z3 := hz
 have zL := hE ▸ hz
 have z2 := pre_size (hE ▸ z3)
 have z1 := pre_size z2
 have HS := Sx.start (n := n) (nv := .slice (some ⟨b, o, none⟩) n.kids.length c) hb hpi
 have y0 := kind0 w n (.slice (some ⟨b, o, none⟩) n.kids.length c)
 clear hb hpi hz
 have HH := h_ (And.intro hr (And.intro HS (And.intro ih (And.intro hf (And.intro hE (And.intro z1 (And.intro z2 (And.intro z3 (And.intro zL (And.intro hn (And.intro hcap (And.intro l0 (And.intro p0 (And.intro q0 (And.intro r0 (And.intro t0 (And.intro k0 (h0))))))))))))))))))
 clear hr HS ih hf hE z1 z2 z3 zL hn hcap l0 p0 q0 r0 t0 k0 h0
 unfold ndV
 rw [hk] at y0 HH ⊢
 go_enter Tryz.func29, Tryz.ntmps29
 go_wp2
 obtain ⟨hr, HS, ih, hf, hE, z1, z2, z3, zL, hn, hcap, l0, p0, q0, r0, t0, k0, h0⟩ := u_ HH
 refine region_prints [aP pb, .arr [[105, 110]], aP pb, aF w 2, aK n b o c, aI b o 0, aN x0 s0 d0, aP pb, aF w 1, aT n, .arr [L n.text], aP pb] [2, 7, 11] [T, T ++ [[105, 110]], T ++ [[105, 110]] ++ tk x0, ET] 161 rfl (by kernel_rfl) (by kernel_rfl) HS ?_ ?_
 · simp only [PlanSteps]
   exact ⟨ps_move rfl rfl (Kn.old rfl rfl),
     ps_arr1 rfl rfl (Kn.const _),
     ps_put 0 rfl (by decide) rfl rfl (Kn.tmp 0 rfl rfl rfl) (KnA.tmp 1 rfl rfl rfl) hp rfl z1,
     ps_field rfl rfl (by decide) (Kn.old rfl rfl),
     ps_load28 rfl rfl (Kn.tmp 3 rfl rfl rfl) (fun w h => h.c2),
     ps_index (i := 0) rfl rfl l0 hn (Kn.tmp 4 rfl rfl rfl) (Kn.const _),
     ps_load30 rfl rfl (Kn.tmp 5 rfl rfl rfl) (fun w h => h.far p0) (fun w h => h.far q0) (fun w h => h.far r0),
     ps_part 1 rfl (by decide) rfl rfl enters14 rfl (Kn.tmp 2 rfl rfl rfl) (Kn.tmp 6 rfl rfl rfl) (fun w h => sx_node hp (ih x0 (List.mem_of_getElem? h0)) (hf x0 (List.mem_of_getElem? h0)) t0 k0 z2 w h),
     ps_field rfl rfl (by decide) (Kn.old rfl rfl),
     ps_load9 rfl rfl (Kn.tmp 8 rfl rfl rfl) (fun w h => h.c1),
     ps_arr1 rfl rfl (Kn.tmp 9 rfl rfl rfl),
     ps_put 2 rfl (by decide) rfl rfl (Kn.tmp 7 rfl rfl rfl) (KnA.tmp 10 rfl rfl rfl) hp hE z3, trivial⟩
 · intro a w' _ hd hs
   have HF := h_ hs.fin
   clear hs HS y0 hE
   go_wp2
   exact e29 hd ⟨rfl, u_ HF⟩
theorem ip7 (n : Nd) (x0 : Nd) (hk : n.kind = 7) (ih : ∀ x ∈ n.kids, IpC x) (hf : ∀ x ∈ n.kids, fm x = true) (h0 : n.kids[0]? = some x0) : IpT 29 n (fun T => T ++ [[111, 117, 116]] ++ tk x0 ++ [L n.text]) := by
 intro v W0 w pb T ET ov hr hb hp hpi hE hz
 dsimp only at hE
 rcases RdK_cases hr with ⟨e0, _⟩ | ⟨b, o, c, vs, hv, hn, hcs⟩
 · rw [e0] at h0; cases h0
 subst hv
 have hcap := RdK_cap hr
 have l0 : 0 < n.kids.length := (List.getElem?_eq_some_iff.1 h0).1
 obtain ⟨p0, q0, r0, t0, k0⟩ := hcs 0 x0 h0
 obtain ⟨s0, d0, e0⟩ := RdK_slice k0
 rw [e0] at r0 k0
 clear hcs
 have z3 := hz
 have zL := hE ▸ hz
 have z2 := pre_size (hE ▸ z3)
 have z1 := pre_size z2
 have HS := Sx.start (n := n) (nv := .slice (some ⟨b, o, none⟩) n.kids.length c) hb hpi
 have y0 := kind0 w n (.slice (some ⟨b, o, none⟩) n.kids.length c)
 clear hb hpi hz
 have HH := h_ (And.intro hr (And.intro HS (And.intro ih (And.intro hf (And.intro hE (And.intro z1 (And.intro z2 (And.intro z3 (And.intro zL (And.intro hn (And.intro hcap (And.intro l0 (And.intro p0 (And.intro q0 (And.intro r0 (And.intro t0 (And.intro k0 (h0))))))))))))))))))
 clear hr HS ih hf hE z1 z2 z3 zL hn hcap l0 p0 q0 r0 t0 k0 h0
 unfold ndV
 rw [hk] at y0 HH ⊢
 go_enter Tryz.func29, Tryz.ntmps29
 go_wp2
 obtain ⟨hr, HS, ih, hf, hE, z1, z2, z3, zL, hn, hcap, l0, p0, q0, r0, t0, k0, h0⟩ := u_ HH
 refine region_prints [aP pb, .arr [[111, 117, 116]], aP pb, aF w 2, aK n b o c, aI b o 0, aN x0 s0 d0, aP pb, aF w 1, aT n, .arr [L n.text], aP pb] [2, 7, 11] [T, T ++ [[111, 117, 116]], T ++ [[111, 117, 116]] ++ tk x0, ET] 161 rfl (by kernel_rfl) (by kernel_rfl) HS ?_ ?_
 · simp only [PlanSteps]
   exact ⟨ps_move rfl rfl (Kn.old rfl rfl),
     ps_arr1 rfl rfl (Kn.const _),
     ps_put 0 rfl (by decide) rfl rfl (Kn.tmp 0 rfl rfl rfl) (KnA.tmp 1 rfl rfl rfl) hp rfl z1,
     ps_field rfl rfl (by decide) (Kn.old rfl rfl),
     ps_load28 rfl rfl (Kn.tmp 3 rfl rfl rfl) (fun w h => h.c2),
     ps_index (i := 0) rfl rfl l0 hn (Kn.tmp 4 rfl rfl rfl) (Kn.const _),
     ps_load30 rfl rfl (Kn.tmp 5 rfl rfl rfl) (fun w h => h.far p0) (fun w h => h.far q0) (fun w h => h.far r0),
     ps_part 1 rfl (by decide) rfl rfl enters14 rfl (Kn.tmp 2 rfl rfl rfl) (Kn.tmp 6 rfl rfl rfl) (fun w h => sx_node hp (ih x0 (List.mem_of_getElem? h0)) (hf x0 (List.mem_of_getElem? h0)) t0 k0 z2 w h),
     ps_field rfl rfl (by decide) (Kn.old rfl rfl),
     ps_load9 rfl rfl (Kn.tmp 8 rfl rfl rfl) (fun w h => h.c1),
     ps_arr1 rfl rfl (Kn.tmp 9 rfl rfl rfl),
     ps_put 2 rfl (by decide) rfl rfl (Kn.tmp 7 rfl rfl rfl) (KnA.tmp 10 rfl rfl rfl) hp hE z3, trivial⟩
 · intro a w' _ hd hs
   have HF := h_ hs.fin
   clear hs HS y0 hE
   go_wp2
   exact e29 hd ⟨rfl, u_ HF⟩
theorem ip23 (n : Nd) (hk : n.kind = 23) (ih : ∀ x ∈ n.kids, IpC x) (hf : ∀ x ∈ n.kids, fm x = true) : IpT 29 n (fun T => T ++ [[123]] ++ joinT [] (n.kids.map tk) ++ [[125]]) := by
 intro v W0 w pb T ET ov hr hb hp hpi hE hz
 dsimp only at hE
 obtain ⟨a', c', hv⟩ := RdK_slice hr
 subst hv
 have z3 := hz
 have zL := hE ▸ hz
 have z2 := pre_size (hE ▸ z3)
 have z1 := pre_size z2
 have HS := Sx.start (n := n) (nv := .slice a' n.kids.length c') hb hpi
 have y0 := kind0 w n (.slice a' n.kids.length c')
 clear hb hpi hz
 have HH := h_ (And.intro hr (And.intro HS (And.intro ih (And.intro hf (And.intro hE (And.intro z1 (And.intro z2 (And.intro z3 (zL)))))))))
 clear hr HS ih hf hE z1 z2 z3 zL
 unfold ndV
 rw [hk] at y0 HH ⊢
 go_enter Tryz.func29, Tryz.ntmps29
 go_wp2
 obtain ⟨hr, HS, ih, hf, hE, z1, z2, z3, zL⟩ := u_ HH
 refine region_prints [aP pb, .arr [[123]], aP pb, aF w 2, aS n a' c', aP pb, .arr [[125]], aP pb] [2, 5, 7] [T, T ++ [[123]], T ++ [[123]] ++ joinT [] (n.kids.map tk), ET] 161 rfl (by kernel_rfl) (by kernel_rfl) HS ?_ ?_
 · simp only [PlanSteps]
   exact ⟨ps_move rfl rfl (Kn.old rfl rfl),
     ps_arr1 rfl rfl (Kn.const _),
     ps_put 0 rfl (by decide) rfl rfl (Kn.tmp 0 rfl rfl rfl) (KnA.tmp 1 rfl rfl rfl) hp rfl z1,
     ps_field rfl rfl (by decide) (Kn.old rfl rfl),
     ps_load28 rfl rfl (Kn.tmp 3 rfl rfl rfl) (fun w h => h.c2),
     ps_part 1 rfl (by decide) rfl rfl enters43 rfl (Kn.tmp 2 rfl rfl rfl) (Kn.tmp 4 rfl rfl rfl) (fun w h => sx_nodes hp ih hf hr z2 w h),
     ps_arr1 rfl rfl (Kn.const _),
     ps_put 2 rfl (by decide) rfl rfl (Kn.tmp 5 rfl rfl rfl) (KnA.tmp 6 rfl rfl rfl) hp hE z3, trivial⟩
 · intro a w' _ hd hs
   have HF := h_ hs.fin
   clear hs HS y0 hE
   go_wp2
   exact e29 hd ⟨rfl, u_ HF⟩
theorem ip26 (n : Nd) (hk : n.kind = 26) (ih : ∀ x ∈ n.kids, IpC x) (hf : ∀ x ∈ n.kids, fm x = true) : IpT 29 n (fun T => T ++ [[123]] ++ joinT [] (n.kids.map tk) ++ [[125]]) := by
 intro v W0 w pb T ET ov hr hb hp hpi hE hz
 dsimp only at hE
 obtain ⟨a', c', hv⟩ := RdK_slice hr
 subst hv
 have z3 := hz
 have zL := hE ▸ hz
 have z2 := pre_size (hE ▸ z3)
 have z1 := pre_size z2
 have HS := Sx.start (n := n) (nv := .slice a' n.kids.length c') hb hpi
 have y0 := kind0 w n (.slice a' n.kids.length c')
 clear hb hpi hz
 have HH := h_ (And.intro hr (And.intro HS (And.intro ih (And.intro hf (And.intro hE (And.intro z1 (And.intro z2 (And.intro z3 (zL)))))))))
 clear hr HS ih hf hE z1 z2 z3 zL
 unfold ndV
 rw [hk] at y0 HH ⊢
 go_enter Tryz.func29, Tryz.ntmps29
 go_wp2
 obtain ⟨hr, HS, ih, hf, hE, z1, z2, z3, zL⟩ := u_ HH
 refine region_prints [aP pb, .arr [[123]], aP pb, aF w 2, aS n a' c', aP pb, .arr [[125]], aP pb] [2, 5, 7] [T, T ++ [[123]], T ++ [[123]] ++ joinT [] (n.kids.map tk), ET] 161 rfl (by kernel_rfl) (by kernel_rfl) HS ?_ ?_
 · simp only [PlanSteps]
   exact ⟨ps_move rfl rfl (Kn.old rfl rfl),
     ps_arr1 rfl rfl (Kn.const _),
     ps_put 0 rfl (by decide) rfl rfl (Kn.tmp 0 rfl rfl rfl) (KnA.tmp 1 rfl rfl rfl) hp rfl z1,
     ps_field rfl rfl (by decide) (Kn.old rfl rfl),
     ps_load28 rfl rfl (Kn.tmp 3 rfl rfl rfl) (fun w h => h.c2),
     ps_part 1 rfl (by decide) rfl rfl enters43 rfl (Kn.tmp 2 rfl rfl rfl) (Kn.tmp 4 rfl rfl rfl) (fun w h => sx_nodes hp ih hf hr z2 w h),
     ps_arr1 rfl rfl (Kn.const _),
     ps_put 2 rfl (by decide) rfl rfl (Kn.tmp 5 rfl rfl rfl) (KnA.tmp 6 rfl rfl rfl) hp hE z3, trivial⟩
 · intro a w' _ hd hs
   have HF := h_ hs.fin
   clear hs HS y0 hE
   go_wp2
   exact e29 hd ⟨rfl, u_ HF⟩
theorem ip25 (n : Nd) (x0 : Nd) (hk : n.kind = 25) (ih : ∀ x ∈ n.kids, IpC x) (hf : ∀ x ∈ n.kids, fm x = true) (h0 : n.kids[0]? = some x0) : IpT 29 n (fun T => T ++ [[46], L n.text, [40]] ++ tk x0 ++ [[41]]) := by
 intro v W0 w pb T ET ov hr hb hp hpi hE hz
 dsimp only at hE
 rcases RdK_cases hr with ⟨e0, _⟩ | ⟨b, o, c, vs, hv, hn, hcs⟩
 · rw [e0] at h0; cases h0
 subst hv
 have hcap := RdK_cap hr
 have l0 : 0 < n.kids.length := (List.getElem?_eq_some_iff.1 h0).1
 obtain ⟨p0, q0, r0, t0, k0⟩ := hcs 0 x0 h0
 obtain ⟨s0, d0, e0⟩ := RdK_slice k0
 rw [e0] at r0 k0
 clear hcs
 have z3 := hz
 have zL := hE ▸ hz
 have z2 := pre_size (hE ▸ z3)
 have z1 := pre_size z2
 have HS := Sx.start (n := n) (nv := .slice (some ⟨b, o, none⟩) n.kids.length c) hb hpi
 have y0 := kind0 w n (.slice (some ⟨b, o, none⟩) n.kids.length c)
 clear hb hpi hz
 have HH := h_ (And.intro hr (And.intro HS (And.intro ih (And.intro hf (And.intro hE (And.intro z1 (And.intro z2 (And.intro z3 (And.intro zL (And.intro hn (And.intro hcap (And.intro l0 (And.intro p0 (And.intro q0 (And.intro r0 (And.intro t0 (And.intro k0 (h0))))))))))))))))))
 clear hr HS ih hf hE z1 z2 z3 zL hn hcap l0 p0 q0 r0 t0 k0 h0
 unfold ndV
 rw [hk] at y0 HH ⊢
 go_enter Tryz.func29, Tryz.ntmps29
 go_wp2
 obtain ⟨hr, HS, ih, hf, hE, z1, z2, z3, zL, hn, hcap, l0, p0, q0, r0, t0, k0, h0⟩ := u_ HH
 refine region_prints [aP pb, aF w 1, aT n, .arr [[46], L n.text, [40]], aP pb, aF w 2, aK n b o c, aI b o 0, aN x0 s0 d0, aP pb, .arr [[41]], aP pb] [4, 9, 11] [T, T ++ [[46], L n.text, [40]], T ++ [[46], L n.text, [40]] ++ tk x0, ET] 161 rfl (by kernel_rfl) (by kernel_rfl) HS ?_ ?_
 · simp only [PlanSteps]
   exact ⟨ps_move rfl rfl (Kn.old rfl rfl),
     ps_field rfl rfl (by decide) (Kn.old rfl rfl),
     ps_load9 rfl rfl (Kn.tmp 1 rfl rfl rfl) (fun w h => h.c1),
     ps_arr3 rfl rfl (Kn.const _) (Kn.tmp 2 rfl rfl rfl) (Kn.const _),
     ps_put 0 rfl (by decide) rfl rfl (Kn.tmp 0 rfl rfl rfl) (KnA.tmp 3 rfl rfl rfl) hp rfl z1,
     ps_field rfl rfl (by decide) (Kn.old rfl rfl),
     ps_load28 rfl rfl (Kn.tmp 5 rfl rfl rfl) (fun w h => h.c2),
     ps_index (i := 0) rfl rfl l0 hn (Kn.tmp 6 rfl rfl rfl) (Kn.const _),
     ps_load30 rfl rfl (Kn.tmp 7 rfl rfl rfl) (fun w h => h.far p0) (fun w h => h.far q0) (fun w h => h.far r0),
     ps_part 1 rfl (by decide) rfl rfl enters14 rfl (Kn.tmp 4 rfl rfl rfl) (Kn.tmp 8 rfl rfl rfl) (fun w h => sx_node hp (ih x0 (List.mem_of_getElem? h0)) (hf x0 (List.mem_of_getElem? h0)) t0 k0 z2 w h),
     ps_arr1 rfl rfl (Kn.const _),
     ps_put 2 rfl (by decide) rfl rfl (Kn.tmp 9 rfl rfl rfl) (KnA.tmp 10 rfl rfl rfl) hp hE z3, trivial⟩
 · intro a w' _ hd hs
   have HF := h_ hs.fin
   clear hs HS y0 hE
   go_wp2
   exact e29 hd ⟨rfl, u_ HF⟩
theorem ip32 (n : Nd) (x0 : Nd) (hk : n.kind = 32) (ih : ∀ x ∈ n.kids, IpC x) (hf : ∀ x ∈ n.kids, fm x = true) (h0 : n.kids[0]? = some x0) : IpT 29 n (fun T => T ++ [[100, 101, 102, 97, 117, 108, 116], [58]] ++ tk x0) := by
 intro v W0 w pb T ET ov hr hb hp hpi hE hz
 dsimp only at hE
 rcases RdK_cases hr with ⟨e0, _⟩ | ⟨b, o, c, vs, hv, hn, hcs⟩
 · rw [e0] at h0; cases h0
 subst hv
 have hcap := RdK_cap hr
 have l0 : 0 < n.kids.length := (List.getElem?_eq_some_iff.1 h0).1
 obtain ⟨p0, q0, r0, t0, k0⟩ := hcs 0 x0 h0
 obtain ⟨s0, d0, e0⟩ := RdK_slice k0
 rw [e0] at r0 k0
 clear hcs
 have z2 := hz
 have zL := hE ▸ hz
 have z1 := pre_size (hE ▸ z2)
 have HS := Sx.start (n := n) (nv := .slice (some ⟨b, o, none⟩) n.kids.length c) hb hpi
 have y0 := kind0 w n (.slice (some ⟨b, o, none⟩) n.kids.length c)
 clear hb hpi hz
 have HH := h_ (And.intro hr (And.intro HS (And.intro ih (And.intro hf (And.intro hE (And.intro z1 (And.intro z2 (And.intro zL (And.intro hn (And.intro hcap (And.intro l0 (And.intro p0 (And.intro q0 (And.intro r0 (And.intro t0 (And.intro k0 (h0)))))))))))))))))
 clear hr HS ih hf hE z1 z2 zL hn hcap l0 p0 q0 r0 t0 k0 h0
 unfold ndV
 rw [hk] at y0 HH ⊢
 go_enter Tryz.func29, Tryz.ntmps29
 go_wp2
 obtain ⟨hr, HS, ih, hf, hE, z1, z2, zL, hn, hcap, l0, p0, q0, r0, t0, k0, h0⟩ := u_ HH
 refine region_prints [aP pb, .arr [[100, 101, 102, 97, 117, 108, 116], [58]], aP pb, aF w 2, aK n b o c, aI b o 0, aN x0 s0 d0, aP pb] [2, 7] [T, T ++ [[100, 101, 102, 97, 117, 108, 116], [58]], ET] 161 rfl (by kernel_rfl) (by kernel_rfl) HS ?_ ?_
 · simp only [PlanSteps]
   exact ⟨ps_move rfl rfl (Kn.old rfl rfl),
     ps_arr2 rfl rfl (Kn.const _) (Kn.const _),
     ps_put 0 rfl (by decide) rfl rfl (Kn.tmp 0 rfl rfl rfl) (KnA.tmp 1 rfl rfl rfl) hp rfl z1,
     ps_field rfl rfl (by decide) (Kn.old rfl rfl),
     ps_load28 rfl rfl (Kn.tmp 3 rfl rfl rfl) (fun w h => h.c2),
     ps_index (i := 0) rfl rfl l0 hn (Kn.tmp 4 rfl rfl rfl) (Kn.const _),
     ps_load30 rfl rfl (Kn.tmp 5 rfl rfl rfl) (fun w h => h.far p0) (fun w h => h.far q0) (fun w h => h.far r0),
     ps_part 1 rfl (by decide) rfl rfl enters14 hE (Kn.tmp 2 rfl rfl rfl) (Kn.tmp 6 rfl rfl rfl) (fun w h => sx_node hp (ih x0 (List.mem_of_getElem? h0)) (hf x0 (List.mem_of_getElem? h0)) t0 k0 zL w h), trivial⟩
 · intro a w' _ hd hs
   have HF := h_ hs.fin
   clear hs HS y0 hE
   go_wp2
   exact e29 hd ⟨rfl, u_ HF⟩
theorem wrap_nat (m : Nat) (h : m ≤ 9223372036854775807) : IntKind.i64.wrap (m : Int) = (m : Int) := by
 rw [IntKind.wrap_i64]; omega
set_option maxHeartbeats 2000000 in
theorem ip31 (n y : Nd) (m : Nat) (hk : n.kind = 31) (ih : ∀ x ∈ n.kids, IpC x) (hf : ∀ x ∈ n.kids, fm x = true) (hm : n.kids.length = m + 1) (h0 : n.kids[m]? = some y) : IpT 29 n (fun T => T ++ joinT [44] ((n.kids.take m).map tk) ++ [[58]] ++ tk y) := by
 intro v W0 w pb T ET ov hr hb hp hpi hE hz
 dsimp only at hE
 rcases RdK_cases hr with ⟨e0, _⟩ | ⟨b, o, c, vs, hv, hn, hcs⟩
 · rw [e0] at h0; cases h0
 subst hv
 have hcap := RdK_cap hr
 obtain ⟨p0, q0, r0, t0, k0⟩ := hcs m y h0
 obtain ⟨s0, d0, e0⟩ := RdK_slice k0
 rw [e0] at r0 k0
 have l0 : m < n.kids.length := by omega
 have m0 : m ≤ c := by omega
 have rT := RdK_take hr m (by omega) c (by omega)
 clear hcs
 have z3 := hz
 have zL := hE ▸ hz
 have z2 := pre_size zL
 have z1 := pre_size z2
 have HS : Sx W0 pb w.heap.size n (.slice (some ⟨b, o, none⟩) n.kids.length c) w ov T (w.alloc (.cells #[.int .i64 n.kind, .string n.text, .slice (some ⟨b, o, none⟩) n.kids.length c] 30)) := ⟨ov, Sti.start hb hpi 30⟩
 have y0 : (w.alloc (.cells #[.int .i64 n.kind, .string n.text, .slice (some ⟨b, o, none⟩) n.kids.length c] 30)).cell? ⟨w.heap.size, 0, none⟩ = some (.int .i64 n.kind) := by rw [World.cell?_alloc_new]; rfl
 have y2 : (w.alloc (.cells #[.int .i64 n.kind, .string n.text, .slice (some ⟨b, o, none⟩) n.kids.length c] 30)).cell? ⟨w.heap.size, 2, none⟩ = some (.slice (some ⟨b, o, none⟩) n.kids.length c) := by rw [World.cell?_alloc_new]; rfl
 have hw : IntKind.i64.wrap ((n.kids.length : Int) - 1) = (m : Int) := by
   rw [hm]; unfold maxLen at hn
   have : ((m + 1 : Nat) : Int) - 1 = (m : Int) := by omega
   rw [this]; exact wrap_nat m (by omega)
 clear hb hpi hz
 replace hr := h_ hr
 replace HS := h_ HS
 replace ih := h_ ih
 replace hf := h_ hf
 replace hE := h_ hE
 replace z1 := h_ z1
 replace z2 := h_ z2
 replace z3 := h_ z3
 replace zL := h_ zL
 replace hn := h_ hn
 replace hcap := h_ hcap
 replace l0 := h_ l0
 replace m0 := h_ m0
 replace rT := h_ rT
 replace p0 := h_ p0
 replace q0 := h_ q0
 replace r0 := h_ r0
 replace t0 := h_ t0
 replace k0 := h_ k0
 replace h0 := h_ h0
 replace hm := h_ hm
 unfold ndV
 rw [hk] at y0 y2 HS ⊢
 go_enter Tryz.func29, Tryz.ntmps29
 go_wp2
 replace hr := u_ hr
 replace HS := u_ HS
 replace ih := u_ ih
 replace hf := u_ hf
 replace hE := u_ hE
 replace z1 := u_ z1
 replace z2 := u_ z2
 replace z3 := u_ z3
 replace zL := u_ zL
 replace hn := u_ hn
 replace hcap := u_ hcap
 replace l0 := u_ l0
 replace m0 := u_ m0
 replace rT := u_ rT
 replace p0 := u_ p0
 replace q0 := u_ q0
 replace r0 := u_ r0
 replace t0 := u_ t0
 replace k0 := u_ k0
 replace h0 := u_ h0
 replace hm := u_ hm
 refine region_prints (W0 := W0) (pb := pb) (kN := w.heap.size) (n := n) (nv := .slice (some ⟨b, o, none⟩) n.kids.length c) (w0 := w) (ov0 := ov) [.val (.pointer (some ⟨pb, 0, none⟩)), .val (.pointer (some ⟨w.heap.size, 2, none⟩)), .val (.slice (some ⟨b, o, none⟩) n.kids.length c), .val (.int .i64 m), .val (.slice (some ⟨b, o, none⟩) m c), .val (.pointer (some ⟨pb, 0, none⟩)), .arr [[58]], .val (.pointer (some ⟨pb, 0, none⟩)), .val (.pointer (some ⟨w.heap.size, 2, none⟩)), .val (.slice (some ⟨b, o, none⟩) n.kids.length c), .val (.int .i64 m), .val (.pointer (some ⟨b, o + m * 3, none⟩)), .val (.agg #[.int .i64 y.kind, .string y.text, .slice s0 y.kids.length d0]), .val (.pointer (some ⟨pb, 0, none⟩))] [5, 7, 13] [T, T ++ joinT [44] ((n.kids.take m).map tk), T ++ joinT [44] ((n.kids.take m).map tk) ++ [[58]], ET] 161 rfl (by kernel_rfl) (by kernel_rfl) HS ?_ ?_
 · simp only [PlanSteps]
   exact ⟨ps_move rfl rfl (Kn.old (by kernel_rfl) rfl),
     ps_field rfl rfl (by decide) (Kn.old (by kernel_rfl) rfl),
     ps_load28 rfl rfl (Kn.tmp 1 rfl rfl rfl) (fun w h => h.c2),
     ps_move rfl rfl (Kn.old (by kernel_rfl) rfl),
     ps_sliceHi (i := m) rfl rfl m0 (Kn.tmp 2 rfl rfl rfl) (Kn.tmp 3 rfl rfl rfl),
     ps_part 0 rfl (by decide) rfl rfl enters41 rfl (Kn.tmp 0 rfl rfl rfl) (Kn.tmp 4 rfl rfl rfl) (fun w h => sx_commas hp (fun x hx => ih x (List.mem_of_mem_take hx)) (fun x hx => hf x (List.mem_of_mem_take hx)) rT z1 w h),
     ps_arr1 rfl rfl (Kn.const _),
     ps_put 1 rfl (by decide) rfl rfl (Kn.tmp 5 rfl rfl rfl) (KnA.tmp 6 rfl rfl rfl) hp rfl z2,
     ps_field rfl rfl (by decide) (Kn.old (by kernel_rfl) rfl),
     ps_load28 rfl rfl (Kn.tmp 8 rfl rfl rfl) (fun w h => h.c2),
     ps_move rfl rfl (Kn.old (by kernel_rfl) rfl),
     ps_index (i := m) rfl rfl l0 hn (Kn.tmp 9 rfl rfl rfl) (Kn.tmp 10 rfl rfl rfl),
     ps_load30 rfl rfl (Kn.tmp 11 rfl rfl rfl) (fun w h => h.far p0) (fun w h => h.far q0) (fun w h => h.far r0),
     ps_part 2 rfl (by decide) rfl rfl enters14 hE (Kn.tmp 7 rfl rfl rfl) (Kn.tmp 12 rfl rfl rfl) (fun w h => sx_node hp (ih y (List.mem_of_getElem? h0)) (hf y (List.mem_of_getElem? h0)) t0 k0 zL w h), trivial⟩
 · intro a w' _ hd hs
   have HF := h_ hs.fin
   clear hs HS y0 y2 hE hw
   go_wp2
   exact e29 hd ⟨rfl, u_ HF⟩
set_option linter.unusedSimpArgs false
set_option maxHeartbeats 4000000 in
theorem ipOne (n : Nd) (ih : ∀ x ∈ n.kids, IpC x) (ih2 : ∀ x ∈ n.kids, ∀ y ∈ x.kids, IpC y) (ih3 : ∀ x ∈ n.kids, ∀ y ∈ x.kids, ∀ z ∈ y.kids, IpC z) : IpC n := by
 intro v W0 w pb T ov ht hfm
 have hfm0 := hfm
 rw [fmn_eq] at hfm
 simp only [Bool.and_eq_true] at hfm
 obtain ⟨⟨hT, hK⟩, hL⟩ := hfm
 have hkf := fmL_mem hL
 revert v W0 w pb T ov ht
 suffices hN : IpC n from fun v W0 w pb T ov ht => hN v W0 w pb T ov ht hfm0
 by_cases h : n.kind = 4
 · rw [h] at hK
   obtain ⟨x, hks, hx⟩ := fit1 (ks := n.kids) (by exact hK)
   exact ipNode29 n _ (by rw [h]; decide) (by rw [h]; decide) (by rw [h]; decide) (ip4 n x h ih hkf (by rw [hks]; rfl)) (fun T => by rw [tk_eq, h, hks]; simp [pieces, kid, joinT, sepL, perT])
 by_cases h : n.kind = 12
 · rw [h] at hK
   obtain ⟨x, hks, hx⟩ := fit1 (ks := n.kids) (by exact hK)
   exact ipNode26 n _ (by rw [h]; decide) (ip12 n x h ih hkf (by rw [hks]; rfl)) (fun T => by rw [tk_eq, h, hks]; simp [pieces, kid, joinT, sepL, perT])
 by_cases h : n.kind = 18
 · rw [h] at hK
   obtain ⟨x, hks, hx⟩ := fit1 (ks := n.kids) (by exact hK)
   exact ipNode26 n _ (by rw [h]; decide) (ip18 n x h ih hkf (by rw [hks]; rfl)) (fun T => by rw [tk_eq, h, hks]; simp [pieces, kid, joinT, sepL, perT])
 by_cases h : n.kind = 25
 · rw [h] at hK
   obtain ⟨x, hks, hx⟩ := fit1 (ks := n.kids) (by exact hK)
   exact ipNode29 n _ (by rw [h]; decide) (by rw [h]; decide) (by rw [h]; decide) (ip25 n x h ih hkf (by rw [hks]; rfl)) (fun T => by rw [tk_eq, h, hks]; simp [pieces, kid, joinT, sepL, perT])
 by_cases h : n.kind = 34
 · rw [h] at hK
   obtain ⟨x, hks, hx⟩ := fit1 (ks := n.kids) (by exact hK)
   exact ipNode27 n _ (by rw [h]; decide) (by rw [h]; decide) (ip34 n x h ih hkf (by rw [hks]; rfl)) (fun T => by rw [tk_eq, h, hks]; simp [pieces, kid, joinT, sepL, perT])
 by_cases h : n.kind = 38
 · rw [h] at hK
   obtain ⟨x, hks, hx⟩ := fit1 (ks := n.kids) (by exact hK)
   exact ipNode28 n _ (by rw [h]; decide) (by rw [h]; decide) (by rw [h]; decide) (ip38 n x h ih hkf (by rw [hks]; rfl)) (fun T => by rw [tk_eq, h, hks]; simp [pieces, kid, joinT, sepL, perT])
 by_cases h : n.kind = 43
 · rw [h] at hK
   obtain ⟨x, hks, hx⟩ := fit1 (ks := n.kids) (by exact hK)
   exact ipNode28 n _ (by rw [h]; decide) (by rw [h]; decide) (by rw [h]; decide) (ip43 n x h ih hkf (by rw [hks]; rfl)) (fun T => by rw [tk_eq, h, hks]; simp [pieces, kid, joinT, sepL, perT])
 by_cases h : n.kind = 44
 · rw [h] at hK
   obtain ⟨x, hks, hx⟩ := fit1 (ks := n.kids) (by exact hK)
   exact ipNode28 n _ (by rw [h]; decide) (by rw [h]; decide) (by rw [h]; decide) (ip44 n x h ih hkf (by rw [hks]; rfl)) (fun T => by rw [tk_eq, h, hks]; simp [pieces, kid, joinT, sepL, perT])
 by_cases h : n.kind = 45
 · rw [h] at hK
   obtain ⟨x, hks, hx⟩ := fit1 (ks := n.kids) (by exact hK)
   exact ipNode28 n _ (by rw [h]; decide) (by rw [h]; decide) (by rw [h]; decide) (ip45 n x h ih hkf (by rw [hks]; rfl)) (fun T => by rw [tk_eq, h, hks]; simp [pieces, kid, joinT, sepL, perT])
 by_cases h : n.kind = 6
 · rw [h] at hK
   obtain ⟨x, hks, hx⟩ := fit1 (ks := n.kids) (by exact hK)
   exact ipNode29 n _ (by rw [h]; decide) (by rw [h]; decide) (by rw [h]; decide) (ip6 n x h ih hkf (by rw [hks]; rfl)) (fun T => by rw [tk_eq, h, hks]; simp [pieces, kid, joinT, sepL, perT])
 by_cases h : n.kind = 7
 · rw [h] at hK
   obtain ⟨x, hks, hx⟩ := fit1 (ks := n.kids) (by exact hK)
   exact ipNode29 n _ (by rw [h]; decide) (by rw [h]; decide) (by rw [h]; decide) (ip7 n x h ih hkf (by rw [hks]; rfl)) (fun T => by rw [tk_eq, h, hks]; simp [pieces, kid, joinT, sepL, perT])
 by_cases h : n.kind = 9
 · rw [h] at hK
   obtain ⟨x, hks, hx⟩ := fit1 (ks := n.kids) (by exact hK)
   exact ipNode26 n _ (by rw [h]; decide) (ip9 n x h ih hkf (by rw [hks]; rfl)) (fun T => by rw [tk_eq, h, hks]; simp [pieces, kid, joinT, sepL, perT])
 by_cases h : n.kind = 15
 · rw [h] at hK
   obtain ⟨x, hks, hx⟩ := fit1 (ks := n.kids) (by exact hK)
   exact ipNode26 n _ (by rw [h]; decide) (ip15 n x h ih hkf (by rw [hks]; rfl)) (fun T => by rw [tk_eq, h, hks]; simp [pieces, kid, joinT, sepL, perT])
 by_cases h : n.kind = 16
 · rw [h] at hK
   obtain ⟨x, hks, hx⟩ := fit1 (ks := n.kids) (by exact hK)
   exact ipNode26 n _ (by rw [h]; decide) (ip16 n x h ih hkf (by rw [hks]; rfl)) (fun T => by rw [tk_eq, h, hks]; simp [pieces, kid, joinT, sepL, perT])
 by_cases h : n.kind = 17
 · rw [h] at hK
   obtain ⟨x, hks, hx⟩ := fit1 (ks := n.kids) (by exact hK)
   exact ipNode26 n _ (by rw [h]; decide) (ip17 n x h ih hkf (by rw [hks]; rfl)) (fun T => by rw [tk_eq, h, hks]; simp [pieces, kid, joinT, sepL, perT])
 by_cases h : n.kind = 32
 · rw [h] at hK
   obtain ⟨x, hks, hx⟩ := fit1 (ks := n.kids) (by exact hK)
   exact ipNode29 n _ (by rw [h]; decide) (by rw [h]; decide) (by rw [h]; decide) (ip32 n x h ih hkf (by rw [hks]; rfl)) (fun T => by rw [tk_eq, h, hks]; simp [pieces, kid, joinT, sepL, perT])
 by_cases h : n.kind = 39
 · rw [h] at hK
   obtain ⟨x, y, hks, hx, hy⟩ := fit2 (ks := n.kids) (by exact hK)
   exact ipNode28 n _ (by rw [h]; decide) (by rw [h]; decide) (by rw [h]; decide) (ip39 n x y h ih hkf (by rw [hks]; rfl) (by rw [hks]; rfl)) (fun T => by rw [tk_eq, h, hks]; simp [pieces, kid, joinT, sepL, perT])
 by_cases h : n.kind = 42
 · rw [h] at hK
   obtain ⟨x, y, hks, hx, hy⟩ := fit2 (ks := n.kids) (by exact hK)
   exact ipNode28 n _ (by rw [h]; decide) (by rw [h]; decide) (by rw [h]; decide) (ip42 n x y h ih hkf (by rw [hks]; rfl) (by rw [hks]; rfl)) (fun T => by rw [tk_eq, h, hks]; simp [pieces, kid, joinT, sepL, perT])
 by_cases h : n.kind = 46
 · rw [h] at hK
   obtain ⟨x, y, hks, hx, hy⟩ := fit2 (ks := n.kids) (by exact hK)
   exact ipNode28 n _ (by rw [h]; decide) (by rw [h]; decide) (by rw [h]; decide) (ip46 n x y h ih hkf (by rw [hks]; rfl) (by rw [hks]; rfl)) (fun T => by rw [tk_eq, h, hks]; simp [pieces, kid, joinT, sepL, perT])
 by_cases h : n.kind = 14
 · rw [h] at hK
   obtain ⟨x, y, hks, hx, hy⟩ := fit2 (ks := n.kids) (by exact hK)
   exact ipNode26 n _ (by rw [h]; decide) (ip14 n x y h ih hkf (by rw [hks]; rfl) (by rw [hks]; rfl)) (fun T => by rw [tk_eq, h, hks]; simp [pieces, kid, joinT, sepL, perT])
 by_cases h : n.kind = 27
 · rw [h] at hK
   obtain ⟨x, y, hks, hx, hy⟩ := fit2 (ks := n.kids) (by exact hK)
   exact ipNode27 n _ (by rw [h]; decide) (by rw [h]; decide) (ip27 n x y h ih hkf (by rw [hks]; rfl) (by rw [hks]; rfl)) (fun T => by rw [tk_eq, h, hks]; simp [pieces, kid, joinT, sepL, perT])
 by_cases h : n.kind = 28
 · rw [h] at hK
   obtain ⟨x, y, hks, hx, hy⟩ := fit2 (ks := n.kids) (by exact hK)
   exact ipNode27 n _ (by rw [h]; decide) (by rw [h]; decide) (ip28 n x y h ih hkf (by rw [hks]; rfl) (by rw [hks]; rfl)) (fun T => by rw [tk_eq, h, hks]; simp [pieces, kid, joinT, sepL, perT])
 by_cases h : n.kind = 11
 · rw [h] at hK
   obtain ⟨x, y, hks, hx, hy⟩ := fit2 (ks := n.kids) (by exact hK)
   exact ipNode26 n _ (by rw [h]; decide) (ip11 n x y h ih hkf (by rw [hks]; rfl) (by rw [hks]; rfl)) (fun T => by rw [tk_eq, h, hks]; simp [pieces, kid, joinT, sepL, perT])
 by_cases h : n.kind = 47
 · rw [h] at hK
   obtain ⟨x, y, z, hks, hx, hy, hz⟩ := fit3 (ks := n.kids) (by exact hK)
   exact ipNode28 n _ (by rw [h]; decide) (by rw [h]; decide) (by rw [h]; decide) (ip47 n x y z h ih hkf (by rw [hks]; rfl) (by rw [hks]; rfl) (by rw [hks]; rfl)) (fun T => by rw [tk_eq, h, hks]; simp [pieces, kid, joinT, sepL, perT])
 by_cases h : n.kind = 20
 · rw [h] at hK
   obtain ⟨x, y, z, hks, hx, hy, hz⟩ := fit3 (ks := n.kids) (by exact hK)
   exact ipNode26 n _ (by rw [h]; decide) (ip20 n x y z h ih hkf (by rw [hks]; rfl) (by rw [hks]; rfl) (by rw [hks]; rfl)) (fun T => by rw [tk_eq, h, hks]; simp [pieces, kid, joinT, sepL, perT])
 by_cases h : n.kind = 33
 · rw [h] at hK
   obtain ⟨x, y, z, hks, hx, hy, hz⟩ := fit3 (ks := n.kids) (by exact hK)
   exact ipNode27 n _ (by rw [h]; decide) (by rw [h]; decide) (ip33 n x y z h ih hkf (by rw [hks]; rfl) (by rw [hks]; rfl) (by rw [hks]; rfl)) (fun T => by rw [tk_eq, h, hks]; simp [pieces, kid, joinT, sepL, perT])
 by_cases h : n.kind = 22
 · rw [h] at hK
   obtain ⟨x, y, z, hks, hx, hy, hz⟩ := fit3 (ks := n.kids) (by exact hK)
   exact ipNode26 n _ (by rw [h]; decide) (ip22 n h ih hkf) (fun T => by rw [tk_eq, h, hks]; simp [pieces, kid, joinT, sepL, perT])
 by_cases h : n.kind = 1
 · rw [h] at hK
   exact ipNode29 n _ (by rw [h]; decide) (by rw [h]; decide) (by rw [h]; decide) (ip1 n h ih hkf) (fun T => by rw [tk_eq, h]; simp [pieces, kid, joinT, sepL, perT])
 by_cases h : n.kind = 5
 · rw [h] at hK
   exact ipNode29 n _ (by rw [h]; decide) (by rw [h]; decide) (by rw [h]; decide) (ip5 n h ih hkf) (fun T => by rw [tk_eq, h]; simp [pieces, kid, joinT, sepL, perT])
 by_cases h : n.kind = 24
 · rw [h] at hK
   exact ipNode29 n _ (by rw [h]; decide) (by rw [h]; decide) (by rw [h]; decide) (ip24 n h ih hkf) (fun T => by rw [tk_eq, h]; simp [pieces, kid, joinT, sepL, perT])
 by_cases h : n.kind = 13
 · rw [h] at hK
   exact ipNode26 n _ (by rw [h]; decide) (ip13 n h ih hkf) (fun T => by rw [tk_eq, h]; simp [pieces, kid, joinT, sepL, perT])
 by_cases h : n.kind = 23
 · rw [h] at hK
   exact ipNode29 n _ (by rw [h]; decide) (by rw [h]; decide) (by rw [h]; decide) (ip23 n h ih hkf) (fun T => by rw [tk_eq, h]; simp [pieces, kid, joinT, sepL, perT])
 by_cases h : n.kind = 26
 · rw [h] at hK
   exact ipNode29 n _ (by rw [h]; decide) (by rw [h]; decide) (by rw [h]; decide) (ip26 n h ih hkf) (fun T => by rw [tk_eq, h]; simp [pieces, kid, joinT, sepL, perT])
 by_cases h : n.kind = 40
 · rw [h] at hK
   exact ipNode28 n _ (by rw [h]; decide) (by rw [h]; decide) (by rw [h]; decide) (ip40 n h ih hkf) (fun T => by rw [tk_eq, h]; simp [pieces, kid, joinT, sepL, perT])
 by_cases h : n.kind = 41
 · rw [h] at hK
   exact ipNode28 n _ (by rw [h]; decide) (by rw [h]; decide) (by rw [h]; decide) (ip41 n h ih hkf) (fun T => by rw [tk_eq, h]; simp [pieces, kid, joinT, sepL, perT])
 by_cases h : n.kind = 35
 · rw [h] at hK
   have hks : n.kids = [] := fit0 (by exact hK)
   exact ipNode27 n _ (by rw [h]; decide) (by rw [h]; decide) (ip35 n h) (fun T => by rw [tk_eq, h, hks]; simp [pieces, kid, joinT, sepL, perT])
 by_cases h : n.kind = 36
 · rw [h] at hK
   have hks : n.kids = [] := fit0 (by exact hK)
   exact ipNode28 n _ (by rw [h]; decide) (by rw [h]; decide) (by rw [h]; decide) (ip36 n h) (fun T => by rw [tk_eq, h, hks]; simp [pieces, kid, joinT, sepL, perT])
 by_cases h : n.kind = 37
 · rw [h] at hK
   have hks : n.kids = [] := fit0 (by exact hK)
   exact ipNode28 n _ (by rw [h]; decide) (by rw [h]; decide) (by rw [h]; decide) (ip37 n h) (fun T => by rw [tk_eq, h, hks]; simp [pieces, kid, joinT, sepL, perT])
 by_cases h : n.kind = 10
 · rw [h] at hK
   have hK2 : (fitK n.kids [2 ^ 8] || fitK n.kids [2 ^ 8, expK]) = true := hK
   rw [Bool.or_eq_true] at hK2
   rcases hK2 with hK2 | hK2
   · obtain ⟨x, hks, hx⟩ := fit1 hK2
     exact ipNode26 n _ (by rw [h]; decide) (ip10 n x h ih hkf (by rw [hks]; rfl)) (fun T => by rw [tk_eq, h, hks]; simp [pieces, kid, joinT, sepL, perT])
   · obtain ⟨x, y, hks, hx, hy⟩ := fit2 hK2
     exact ipNode26 n _ (by rw [h]; decide) (ip10 n x h ih hkf (by rw [hks]; rfl)) (fun T => by rw [tk_eq, h, hks]; simp [pieces, kid, joinT, sepL, perT])
 by_cases h : n.kind = 21
 · rw [h] at hK
   have hK2 : (fitK n.kids [expK, 2 ^ 23] || fitK n.kids [expK, 2 ^ 23, 2 ^ 23]) = true := hK
   rw [Bool.or_eq_true] at hK2
   rcases hK2 with hK2 | hK2
   · obtain ⟨x, y, hks, hx, hy⟩ := fit2 hK2
     exact ipNode26 n _ (by rw [h]; decide) (ip21 n x y h ih hkf (by rw [hks]; rfl) (by rw [hks]; rfl)) (fun T => by rw [tk_eq, h, hks]; simp [pieces, kid, joinT, sepL, perT])
   · obtain ⟨x, y, z, hks, hx, hy, hz⟩ := fit3 hK2
     exact ipNode26 n _ (by rw [h]; decide) (ip21 n x y h ih hkf (by rw [hks]; rfl) (by rw [hks]; rfl)) (fun T => by rw [tk_eq, h, hks]; simp [pieces, kid, joinT, sepL, perT])
 by_cases h : n.kind = 29
 · rw [h] at hK
   have hK2 : (fitK n.kids [expK, 2 ^ 26] || fitK n.kids [expK, 2 ^ 26, 2 ^ 26 + 2 ^ 29]) = true := hK
   rw [Bool.or_eq_true] at hK2
   rcases hK2 with hK2 | hK2
   · obtain ⟨x, y, hks, hx, hy⟩ := fit2 hK2
     exact ipNode27 n _ (by rw [h]; decide) (by rw [h]; decide) (ip29 n x y h ih hkf (by rw [hks]; rfl) (by rw [hks]; rfl)) (fun T => by rw [tk_eq, h, hks]; simp [pieces, kid, joinT, sepL, perT])
   · obtain ⟨x, y, z, hks, hx, hy, hz⟩ := fit3 hK2
     exact ipNode27 n _ (by rw [h]; decide) (by rw [h]; decide) (ip29 n x y h ih hkf (by rw [hks]; rfl) (by rw [hks]; rfl)) (fun T => by rw [tk_eq, h, hks]; simp [pieces, kid, joinT, sepL, perT])
 by_cases h : n.kind = 3
 · rw [h] at hK
   by_cases hks : n.kids = []
   · exact ipNode29 n _ (by rw [h]; decide) (by rw [h]; decide) (by rw [h]; decide) (ip3a n h hks) (fun T => by rw [tk_eq, h, hks]; simp [pieces])
   · exact ipNode29 n _ (by rw [h]; decide) (by rw [h]; decide) (by rw [h]; decide) (ip3b n h hks ih hkf) (fun T => by rw [tk_eq, h]; simp [pieces, joinT, hks])
 by_cases h : n.kind = 8
 · rw [h] at hK
   have hK2 : (n.kids.isEmpty || fitK n.kids [expK]) = true := hK
   rw [Bool.or_eq_true] at hK2
   rcases hK2 with hK2 | hK2
   · have hks : n.kids = [] := fit0 hK2
     by_cases hA : L n.text = []
     · exact ipNode29 n _ (by rw [h]; decide) (by rw [h]; decide) (by rw [h]; decide) (ip8 n _ h (iTa n h hks hA)) (fun T => by rw [tk_eq, h, hks]; simp [pieces, hA])
     · exact ipNode29 n _ (by rw [h]; decide) (by rw [h]; decide) (by rw [h]; decide) (ip8 n _ h (iTc n h hks hA)) (fun T => by rw [tk_eq, h, hks]; simp [pieces, hA])
   · obtain ⟨x, hks, hx⟩ := fit1 hK2
     by_cases hA : L n.text = []
     · exact ipNode29 n _ (by rw [h]; decide) (by rw [h]; decide) (by rw [h]; decide) (ip8 n _ h (iTb n x h hA ih hkf (by rw [hks]; rfl))) (fun T => by rw [tk_eq, h, hks]; simp [pieces, kid, hA])
     · exact ipNode29 n _ (by rw [h]; decide) (by rw [h]; decide) (by rw [h]; decide) (ip8 n _ h (iTd n x h hA ih hkf (by rw [hks]; rfl))) (fun T => by rw [tk_eq, h, hks]; simp [pieces, kid, hA])
 by_cases h : n.kind = 19
 · rw [h] at hK
   have hK2 : (fitK n.kids [2 ^ 8, 2 ^ 5, expK] && allK (2 ^ 6) ((n.kids.drop 1).headD (.mk 0 ⟨#[]⟩ [])).kids) = true := hK
   rw [Bool.and_eq_true] at hK2
   obtain ⟨x, y, z, hks, hx, hy, hzk⟩ := fit3 hK2.1
   have hpk : allK (2 ^ 6) y.kids = true := by have := hK2.2; rw [hks] at this; exact this
   obtain ⟨hky, hfy⟩ := kids_fm (hkf y (by rw [hks]; simp))
   have hpt : ∀ p ∈ y.kids, ∃ q, IPort p q := by
     intro p hp'
     unfold allK at hpk
     have p6 : p.kind = 6 := kind_of (List.all_eq_true.1 hpk p hp') (by decide) (by decide)
     obtain ⟨hkp, hfp'⟩ := kids_fm (hfy p hp')
     rw [p6] at hkp
     obtain ⟨q, hq, hqk⟩ := fit1 (ks := p.kids) (by exact hkp)
     refine ⟨q, hq, ?_, ih3 y (by rw [hks]; simp) p hp' q (by rw [hq]; simp), hfp' q (by rw [hq]; simp)⟩
     rw [tk_eq p, p6, hq]; simp [pieces, kid]
   exact ipNode26 n _ (by rw [h]; decide) (ip19 n x y z h hpt ih hkf (by rw [hks]; rfl) (by rw [hks]; rfl) (by rw [hks]; rfl)) (fun T => by rw [tk_eq, h, hks]; simp [pieces, kid, portsT]; rfl)
 by_cases h : n.kind = 2
 · rw [h] at hK
   have hK2 : (decide (2 ≤ n.kids.length) && fitK (n.kids.take 2) [2 ^ 3, 2 ^ 5] && allK itmK (n.kids.drop 2)) = true := hK
   simp only [Bool.and_eq_true, decide_eq_true_eq] at hK2
   obtain ⟨⟨hl2, hf2⟩, ha2⟩ := hK2
   obtain ⟨x, y, r, hks⟩ : ∃ x y r, n.kids = x :: y :: r := by
     match hq : n.kids with
     | [] => rw [hq] at hl2; simp at hl2
     | [x] => rw [hq] at hl2; simp at hl2
     | x :: y :: r => exact ⟨x, y, r, rfl⟩
   exact ipNode29 n _ (by rw [h]; decide) (by rw [h]; decide) (by rw [h]; decide) (ip2 n x y h ih hkf (by rw [hks]; rfl) (by rw [hks]; rfl)) (fun T => by rw [tk_eq, h, hks]; simp [pieces, kid, joinT])
 by_cases h : n.kind = 30
 · rw [h] at hK
   have hK2 : (match n.kids with | [] => false | x :: xs => hasB expK x.kind && armsB xs) = true := hK
   obtain ⟨x, r, hks⟩ : ∃ x r, n.kids = x :: r := by
     match hq : n.kids with
     | [] => rw [hq] at hK2; simp at hK2
     | x :: r => exact ⟨x, r, rfl⟩
   exact ipNode27 n _ (by rw [h]; decide) (by rw [h]; decide) (ip30 n x h ih hkf (by rw [hks]; rfl)) (fun T => by rw [tk_eq, h, hks]; simp [pieces, kid, joinT])
 by_cases h : n.kind = 31
 · rw [h] at hK
   have hK2 : (decide (2 ≤ n.kids.length) && allK expK n.kids.dropLast && (match n.kids.getLast? with | some x => decide (x.kind = 26) | none => false)) = true := hK
   simp only [Bool.and_eq_true, decide_eq_true_eq] at hK2
   obtain ⟨⟨hl2, ha2⟩, hla⟩ := hK2
   obtain ⟨m, hm⟩ : ∃ m, n.kids.length = m + 1 := ⟨n.kids.length - 1, by omega⟩
   obtain ⟨y, hy⟩ : ∃ y, n.kids[m]? = some y := ⟨_, List.getElem?_eq_getElem (by omega)⟩
   exact ipNode29 n _ (by rw [h]; decide) (by rw [h]; decide) (by rw [h]; decide) (ip31 n y m h ih hkf hm hy) (fun T => by
       rw [tk_eq, h]
       have e1 : (n.kids.map tk).dropLast = (n.kids.take m).map tk := by rw [List.dropLast_eq_take, List.length_map, hm, List.map_take]; rfl
       have e2 : kid (n.kids.map tk) ((n.kids.map tk).length - 1) = tk y := by
         unfold kid
         rw [List.length_map, hm, List.getD_eq_getElem?_getD, List.getElem?_map]
         show (Option.map tk n.kids[m]?).getD [] = _
         rw [hy]; rfl
       have e3 : pieces 31 (L n.text) (n.kids.map tk) (n.kids.map fun x => x.kids.map tk) = sepL [44] (n.kids.map tk).dropLast ++ [[58]] ++ kid (n.kids.map tk) ((n.kids.map tk).length - 1) := by simp [pieces]
       rw [e3, e1, e2]; simp [joinT])
 exfalso
 unfold kdB at hK
 simp only [*, if_false, or_false, or_self] at hK
 simp at hK
theorem ipAll3 : ∀ n : Nd, IpC n ∧ (∀ x ∈ n.kids, IpC x) ∧ (∀ x ∈ n.kids, ∀ y ∈ x.kids, IpC y) := Nd.ind fun n ih =>
 ⟨ipOne n (fun x hx => (ih x hx).1) (fun x hx => (ih x hx).2.1) (fun x hx => (ih x hx).2.2), fun x hx => (ih x hx).1, fun x hx => (ih x hx).2.1⟩
theorem ipAll (n : Nd) : IpC n := (ipAll3 n).1
theorem setsNew (W : World) (l : List Nat) : ∀ i s : Nat, l[i]? = some s → (W.alloc (Obj.cells (l.map fun s : Nat => Value.int .u64 (s : Int)).toArray 58)).cell? ⟨W.heap.size, 0 + i, none⟩ = some (.int .u64 (s : Int)) := by
 intro i s h
 rw [Nat.zero_add, World.cell?_alloc_new]
 simp [h]
theorem fitCall (ks : List Nd) (ss : List Nat) (v : Value) (W : World) (b : Nat) (hs : ∀ s ∈ ss, s < 2 ^ 48) (h3 : ss.length ≤ 3) (hb : b = W.heap.size) (hr : RdK W ks v) :
   Calls Tryz.prog 55 #[v, .slice (some ⟨b, 0, none⟩) ss.length ss.length] (W.alloc (Obj.cells (ss.map fun s : Nat => Value.int .u64 (s : Int)).toArray 58)) fun e w' => e = .returned (.bool (fitK ks ss)) ∧ Below W.heap.size W w' := by
 subst hb
 refine (iFit ks ss v W.heap.size 0 ss.length _ hs h3 (RdK_later (bal (brf W) _) hr) (setsNew W ss)).mono ?_
 rintro e w' ⟨rfl, h⟩
 exact ⟨rfl, btr (bal (brf W) _) h⟩
set_option maxHeartbeats 400000
theorem armsFit0 (v : Value) (w : World) (hr : RdK w [] v) : CB 72 #[v] w (.bool true) := by
 have HH := h_ (fun v' w' hr' => iHasAll (2 ^ 31) [] v' w' (by decide) hr')
 have HR := h_ hr
 obtain ⟨a0, c0, rfl⟩ := RdK_slice hr
 clear hr
 have e0 : allK (2 ^ 31) [] = true := rfl
 rw [e0] at HH
 go_enter Tryz.func72, Tryz.ntmps72
 go_wp2_with (go_at_call 56; refine (u_ HH _ _ (u_ HR)).mono ?_; rintro e v1 ⟨rfl, hb1⟩)
 go_ret
 exact ⟨rfl, hb1⟩
theorem armsFit1 (ks : List Nd) (v : Value) (w : World) (hr : RdK w ks v) (m : Nat) (hm : ks.length = m + 1) (y : Nd) (hy : ks[m]? = some y) (h32 : y.kind = 32) :
   CB 72 #[v] w (.bool (allK (2 ^ 31) (ks.take m))) := by
 have HH := h_ (fun v' w' hr' => iHasAll (2 ^ 31) (ks.take m) v' w' (by decide) hr')
 rcases RdK_cases hr with ⟨h0, _⟩ | ⟨b, o, c, vs, hv, hn, hcs⟩
 · rw [h0] at hm; simp at hm
 subst hv
 obtain ⟨k1, k2, k3, hts, hk⟩ := hcs m y hy
 have hcap := RdK_cap hr
 have HT := h_ (RdK_take hr m (by omega) c (by omega))
 have hmc : m ≤ c := by omega
 obtain ⟨a', c'', hv'⟩ := RdK_slice hk
 rw [hv'] at k3
 rw [h32] at k1
 rw [hm] at hn hcap ⊢
 unfold maxLen at hn
 clear hr hk hcs
 generalize y.text = yt at *
 generalize allK (2 ^ 31) (ks.take m) = r at *
 go_enter Tryz.func72, Tryz.ntmps72
 go_wp2_with (go_at_call 56; refine (u_ HH _ _ (u_ HT)).mono ?_; rintro e v1 ⟨rfl, hb1⟩)
 go_ret
 exact ⟨rfl, hb1⟩
theorem armsFit2 (ks : List Nd) (v : Value) (w : World) (hr : RdK w ks v) (m : Nat) (hm : ks.length = m + 1) (y : Nd) (hy : ks[m]? = some y) (h32 : y.kind ≠ 32) :
   CB 72 #[v] w (.bool (allK (2 ^ 31) ks)) := by
 have HH := h_ (fun v' w' hr' => iHasAll (2 ^ 31) ks v' w' (by decide) hr')
 have HR := h_ hr
 have a32 : (y.kind == 32) = false := beq_eq_false_iff_ne.2 h32
 rcases RdK_cases hr with ⟨h0, _⟩ | ⟨b, o, c, vs, hv, hn, hcs⟩
 · rw [h0] at hm; simp at hm
 subst hv
 obtain ⟨k1, k2, k3, hts, hk⟩ := hcs m y hy
 obtain ⟨a', c'', hv'⟩ := RdK_slice hk
 rw [hv'] at k3
 rw [hm] at hn HR ⊢
 unfold maxLen at hn
 clear hr hk hcs h32
 generalize y.text = yt at *
 generalize y.kind = yk at *
 generalize allK (2 ^ 31) ks = r at *
 go_enter Tryz.func72, Tryz.ntmps72
 go_wp2_with (go_at_call 56; refine (u_ HH _ _ (u_ HR)).mono ?_; rintro e v1 ⟨rfl, hb1⟩)
 go_ret
 exact ⟨rfl, hb1⟩
theorem iArms (ks : List Nd) (v : Value) (w : World) (hr : RdK w ks v) : CB 72 #[v] w (.bool (armsB ks)) := by
 cases hks : ks with
 | nil => subst hks; exact armsFit0 v w hr
 | cons x xs =>
   rw [← hks]
   have hm : ks.length = xs.length + 1 := by rw [hks]; rfl
   obtain ⟨y, hy⟩ : ∃ y, ks[xs.length]? = some y := ⟨_, List.getElem?_eq_getElem (by omega)⟩
   have hla : ks.getLast? = some y := by rw [List.getLast?_eq_getElem?, hm]; exact hy
   have e : armsB ks = if y.kind = 32 then allK (2 ^ 31) (ks.take xs.length) else allK (2 ^ 31) ks := by
     unfold armsB
     rw [hla, List.dropLast_eq_take, hm]
     rfl
   rw [e]
   by_cases h32 : y.kind = 32
   · rw [if_pos h32]; exact armsFit1 ks v w hr xs.length hm y hy h32
   · rw [if_neg h32]; exact armsFit2 ks v w hr xs.length hm y hy h32
end Go.Proofs.YtddlokkejglckaaGreatDoor
