/- Parts of the proof: PK27 to PK28. -/
import Derived.Test.YtddlokkejglckaaGreatDoorMRP
namespace Go.Proofs.YtddlokkejglckaaGreatDoor
open Go.RowKit Nt
set_option maxHeartbeats 2000000
set_option linter.unusedVariables false
set_option maxRecDepth 100000
theorem ip27 (n : Nd) (x0 x1 : Nd) (hk : n.kind = 27) (ih : ∀ x ∈ n.kids, IpC x) (hf : ∀ x ∈ n.kids, fm x = true) (h0 : n.kids[0]? = some x0) (h1 : n.kids[1]? = some x1) : IpT 27 n (fun T => T ++ tk x0 ++ [[61]] ++ tk x1 ++ [[59]]) := by
 intro v W0 w pb T ET ov hr hb hp hpi hE hz
 dsimp only at hE
 rcases RdK_cases hr with ⟨e0, _⟩ | ⟨b, o, c, vs, hv, hn, hcs⟩
 · rw [e0] at h0; cases h0
 subst hv
 have hcap := RdK_cap hr
 have l0 : 0 < n.kids.length := (List.getElem?_eq_some_iff.1 h0).1
 obtain ⟨p0, q0, r0, t0, k0⟩ := hcs 0 x0 h0
 obtain ⟨s0, d0, e0⟩ := RdK_slice k0
 rw [e0] at r0 k0
 have l1 : 1 < n.kids.length := (List.getElem?_eq_some_iff.1 h1).1
 obtain ⟨p1, q1, r1, t1, k1⟩ := hcs 1 x1 h1
 obtain ⟨s1, d1, e1⟩ := RdK_slice k1
 rw [e1] at r1 k1
 clear hcs
 have z4 := hz
 have zL := hE ▸ hz
 have z3 := pre_size (hE ▸ z4)
 have z2 := pre_size z3
 have z1 := pre_size z2
 have HS := Sx.start (n := n) (nv := .slice (some ⟨b, o, none⟩) n.kids.length c) hb hpi
 have y0 := kind0 w n (.slice (some ⟨b, o, none⟩) n.kids.length c)
 clear hb hpi hz
 have HH := h_ (And.intro hr (And.intro HS (And.intro ih (And.intro hf (And.intro hE (And.intro z1 (And.intro z2 (And.intro z3 (And.intro z4 (And.intro zL (And.intro hn (And.intro hcap (And.intro l0 (And.intro p0 (And.intro q0 (And.intro r0 (And.intro t0 (And.intro k0 (And.intro l1 (And.intro p1 (And.intro q1 (And.intro r1 (And.intro t1 (And.intro k1 (And.intro h0 (h1))))))))))))))))))))))))))
 clear hr HS ih hf hE z1 z2 z3 z4 zL hn hcap l0 p0 q0 r0 t0 k0 l1 p1 q1 r1 t1 k1 h0 h1
 unfold ndV
 rw [hk] at y0 HH ⊢
 go_enter Tryz.func27, Tryz.ntmps27
 go_wp2
 obtain ⟨hr, HS, ih, hf, hE, z1, z2, z3, z4, zL, hn, hcap, l0, p0, q0, r0, t0, k0, l1, p1, q1, r1, t1, k1, h0, h1⟩ := u_ HH
 refine region_prints [aP pb, aF w 2, aK n b o c, aI b o 0, aN x0 s0 d0, aP pb, .arr [[61]], aP pb, aF w 2, aK n b o c, aI b o 1, aN x1 s1 d1, aP pb, .arr [[59]], aP pb] [5, 7, 12, 14] [T, T ++ tk x0, T ++ tk x0 ++ [[61]], T ++ tk x0 ++ [[61]] ++ tk x1, ET] 118 rfl (by kernel_rfl) (by kernel_rfl) HS ?_ ?_
 · simp only [PlanSteps]
   exact ⟨ps_move rfl rfl (Kn.old rfl rfl),
     ps_field rfl rfl (by decide) (Kn.old rfl rfl),
     ps_load28 rfl rfl (Kn.tmp 1 rfl rfl rfl) (fun w h => h.c2),
     ps_index (i := 0) rfl rfl l0 hn (Kn.tmp 2 rfl rfl rfl) (Kn.const _),
     ps_load30 rfl rfl (Kn.tmp 3 rfl rfl rfl) (fun w h => h.far p0) (fun w h => h.far q0) (fun w h => h.far r0),
     ps_part 0 rfl (by decide) rfl rfl enters14 rfl (Kn.tmp 0 rfl rfl rfl) (Kn.tmp 4 rfl rfl rfl) (fun w h => sx_node hp (ih x0 (List.mem_of_getElem? h0)) (hf x0 (List.mem_of_getElem? h0)) t0 k0 z1 w h),
     ps_arr1 rfl rfl (Kn.const _),
     ps_put 1 rfl (by decide) rfl rfl (Kn.tmp 5 rfl rfl rfl) (KnA.tmp 6 rfl rfl rfl) hp rfl z2,
     ps_field rfl rfl (by decide) (Kn.old rfl rfl),
     ps_load28 rfl rfl (Kn.tmp 8 rfl rfl rfl) (fun w h => h.c2),
     ps_index (i := 1) rfl rfl l1 hn (Kn.tmp 9 rfl rfl rfl) (Kn.const _),
     ps_load30 rfl rfl (Kn.tmp 10 rfl rfl rfl) (fun w h => h.far p1) (fun w h => h.far q1) (fun w h => h.far r1),
     ps_part 2 rfl (by decide) rfl rfl enters14 rfl (Kn.tmp 7 rfl rfl rfl) (Kn.tmp 11 rfl rfl rfl) (fun w h => sx_node hp (ih x1 (List.mem_of_getElem? h1)) (hf x1 (List.mem_of_getElem? h1)) t1 k1 z3 w h),
     ps_arr1 rfl rfl (Kn.const _),
     ps_put 3 rfl (by decide) rfl rfl (Kn.tmp 12 rfl rfl rfl) (KnA.tmp 13 rfl rfl rfl) hp hE z4, trivial⟩
 · intro a w' _ hd hs
   have HF := h_ hs.fin
   clear hs HS y0 hE
   go_wp2
   exact e27 hd ⟨rfl, u_ HF⟩
theorem ip28 (n : Nd) (x0 x1 : Nd) (hk : n.kind = 28) (ih : ∀ x ∈ n.kids, IpC x) (hf : ∀ x ∈ n.kids, fm x = true) (h0 : n.kids[0]? = some x0) (h1 : n.kids[1]? = some x1) : IpT 27 n (fun T => T ++ tk x0 ++ [[60, 61]] ++ tk x1 ++ [[59]]) := by
 intro v W0 w pb T ET ov hr hb hp hpi hE hz
 dsimp only at hE
 rcases RdK_cases hr with ⟨e0, _⟩ | ⟨b, o, c, vs, hv, hn, hcs⟩
 · rw [e0] at h0; cases h0
 subst hv
 have hcap := RdK_cap hr
 have l0 : 0 < n.kids.length := (List.getElem?_eq_some_iff.1 h0).1
 obtain ⟨p0, q0, r0, t0, k0⟩ := hcs 0 x0 h0
 obtain ⟨s0, d0, e0⟩ := RdK_slice k0
 rw [e0] at r0 k0
 have l1 : 1 < n.kids.length := (List.getElem?_eq_some_iff.1 h1).1
 obtain ⟨p1, q1, r1, t1, k1⟩ := hcs 1 x1 h1
 obtain ⟨s1, d1, e1⟩ := RdK_slice k1
 rw [e1] at r1 k1
 clear hcs
 have z4 := hz
 have zL := hE ▸ hz
 have z3 := pre_size (hE ▸ z4)
 have z2 := pre_size z3
 have z1 := pre_size z2
 have HS := Sx.start (n := n) (nv := .slice (some ⟨b, o, none⟩) n.kids.length c) hb hpi
 have y0 := kind0 w n (.slice (some ⟨b, o, none⟩) n.kids.length c)
 clear hb hpi hz
 have HH := h_ (And.intro hr (And.intro HS (And.intro ih (And.intro hf (And.intro hE (And.intro z1 (And.intro z2 (And.intro z3 (And.intro z4 (And.intro zL (And.intro hn (And.intro hcap (And.intro l0 (And.intro p0 (And.intro q0 (And.intro r0 (And.intro t0 (And.intro k0 (And.intro l1 (And.intro p1 (And.intro q1 (And.intro r1 (And.intro t1 (And.intro k1 (And.intro h0 (h1))))))))))))))))))))))))))
 clear hr HS ih hf hE z1 z2 z3 z4 zL hn hcap l0 p0 q0 r0 t0 k0 l1 p1 q1 r1 t1 k1 h0 h1
 unfold ndV
 rw [hk] at y0 HH ⊢
 go_enter Tryz.func27, Tryz.ntmps27
 go_wp2
 obtain ⟨hr, HS, ih, hf, hE, z1, z2, z3, z4, zL, hn, hcap, l0, p0, q0, r0, t0, k0, l1, p1, q1, r1, t1, k1, h0, h1⟩ := u_ HH
 refine region_prints [aP pb, aF w 2, aK n b o c, aI b o 0, aN x0 s0 d0, aP pb, .arr [[60, 61]], aP pb, aF w 2, aK n b o c, aI b o 1, aN x1 s1 d1, aP pb, .arr [[59]], aP pb] [5, 7, 12, 14] [T, T ++ tk x0, T ++ tk x0 ++ [[60, 61]], T ++ tk x0 ++ [[60, 61]] ++ tk x1, ET] 118 rfl (by kernel_rfl) (by kernel_rfl) HS ?_ ?_
 · simp only [PlanSteps]
   exact ⟨ps_move rfl rfl (Kn.old rfl rfl),
     ps_field rfl rfl (by decide) (Kn.old rfl rfl),
     ps_load28 rfl rfl (Kn.tmp 1 rfl rfl rfl) (fun w h => h.c2),
     ps_index (i := 0) rfl rfl l0 hn (Kn.tmp 2 rfl rfl rfl) (Kn.const _),
     ps_load30 rfl rfl (Kn.tmp 3 rfl rfl rfl) (fun w h => h.far p0) (fun w h => h.far q0) (fun w h => h.far r0),
     ps_part 0 rfl (by decide) rfl rfl enters14 rfl (Kn.tmp 0 rfl rfl rfl) (Kn.tmp 4 rfl rfl rfl) (fun w h => sx_node hp (ih x0 (List.mem_of_getElem? h0)) (hf x0 (List.mem_of_getElem? h0)) t0 k0 z1 w h),
     ps_arr1 rfl rfl (Kn.const _),
     ps_put 1 rfl (by decide) rfl rfl (Kn.tmp 5 rfl rfl rfl) (KnA.tmp 6 rfl rfl rfl) hp rfl z2,
     ps_field rfl rfl (by decide) (Kn.old rfl rfl),
     ps_load28 rfl rfl (Kn.tmp 8 rfl rfl rfl) (fun w h => h.c2),
     ps_index (i := 1) rfl rfl l1 hn (Kn.tmp 9 rfl rfl rfl) (Kn.const _),
     ps_load30 rfl rfl (Kn.tmp 10 rfl rfl rfl) (fun w h => h.far p1) (fun w h => h.far q1) (fun w h => h.far r1),
     ps_part 2 rfl (by decide) rfl rfl enters14 rfl (Kn.tmp 7 rfl rfl rfl) (Kn.tmp 11 rfl rfl rfl) (fun w h => sx_node hp (ih x1 (List.mem_of_getElem? h1)) (hf x1 (List.mem_of_getElem? h1)) t1 k1 z3 w h),
     ps_arr1 rfl rfl (Kn.const _),
     ps_put 3 rfl (by decide) rfl rfl (Kn.tmp 12 rfl rfl rfl) (KnA.tmp 13 rfl rfl rfl) hp hE z4, trivial⟩
 · intro a w' _ hd hs
   have HF := h_ hs.fin
   clear hs HS y0 hE
   go_wp2
   exact e27 hd ⟨rfl, u_ HF⟩
theorem ip29 (n : Nd) (x0 x1 : Nd) (hk : n.kind = 29) (ih : ∀ x ∈ n.kids, IpC x) (hf : ∀ x ∈ n.kids, fm x = true) (h0 : n.kids[0]? = some x0) (h1 : n.kids[1]? = some x1) : IpT 27 n (fun T => T ++ [[105, 102]] ++ tk x0 ++ tk x1 ++ perT [101, 108, 115, 101] (n.kids.drop 2)) := by
 intro v W0 w pb T ET ov hr hb hp hpi hE hz
 dsimp only at hE
 rcases RdK_cases hr with ⟨e0, _⟩ | ⟨b, o, c, vs, hv, hn, hcs⟩
 · rw [e0] at h0; cases h0
 subst hv
 have hcap := RdK_cap hr
 have l0 : 0 < n.kids.length := (List.getElem?_eq_some_iff.1 h0).1
 obtain ⟨p0, q0, r0, t0, k0⟩ := hcs 0 x0 h0
 obtain ⟨s0, d0, e0⟩ := RdK_slice k0
 rw [e0] at r0 k0
 have l1 : 1 < n.kids.length := (List.getElem?_eq_some_iff.1 h1).1
 obtain ⟨p1, q1, r1, t1, k1⟩ := hcs 1 x1 h1
 obtain ⟨s1, d1, e1⟩ := RdK_slice k1
 rw [e1] at r1 k1
 have m2 : 2 ≤ n.kids.length := by omega
 clear hcs
 have z4 := hz
 have zL := hE ▸ hz
 have z3 := pre_size (hE ▸ z4)
 have z2 := pre_size z3
 have z1 := pre_size z2
 have HS := Sx.start (n := n) (nv := .slice (some ⟨b, o, none⟩) n.kids.length c) hb hpi
 have y0 := kind0 w n (.slice (some ⟨b, o, none⟩) n.kids.length c)
 clear hb hpi hz
 have HH := h_ (And.intro hr (And.intro HS (And.intro ih (And.intro hf (And.intro hE (And.intro z1 (And.intro z2 (And.intro z3 (And.intro z4 (And.intro zL (And.intro hn (And.intro hcap (And.intro l0 (And.intro p0 (And.intro q0 (And.intro r0 (And.intro t0 (And.intro k0 (And.intro l1 (And.intro p1 (And.intro q1 (And.intro r1 (And.intro t1 (And.intro k1 (And.intro m2 (And.intro h0 (h1)))))))))))))))))))))))))))
 clear hr HS ih hf hE z1 z2 z3 z4 zL hn hcap l0 p0 q0 r0 t0 k0 l1 p1 q1 r1 t1 k1 m2 h0 h1
 unfold ndV
 rw [hk] at y0 HH ⊢
 go_enter Tryz.func27, Tryz.ntmps27
 go_wp2
 obtain ⟨hr, HS, ih, hf, hE, z1, z2, z3, z4, zL, hn, hcap, l0, p0, q0, r0, t0, k0, l1, p1, q1, r1, t1, k1, m2, h0, h1⟩ := u_ HH
 refine region_prints [aP pb, .arr [[105, 102]], aP pb, aF w 2, aK n b o c, aI b o 0, aN x0 s0 d0, aP pb, aF w 2, aK n b o c, aI b o 1, aN x1 s1 d1, aP pb, aF w 2, aK n b o c, .val (dropV b o n.kids.length c 2), aP pb] [2, 7, 12, 16] [T, T ++ [[105, 102]], T ++ [[105, 102]] ++ tk x0, T ++ [[105, 102]] ++ tk x0 ++ tk x1, ET] 118 rfl (by kernel_rfl) (by kernel_rfl) HS ?_ ?_
 · simp only [PlanSteps]
   exact ⟨ps_move rfl rfl (Kn.old rfl rfl),
     ps_arr1 rfl rfl (Kn.const _),
     ps_put 0 rfl (by decide) rfl rfl (Kn.tmp 0 rfl rfl rfl) (KnA.tmp 1 rfl rfl rfl) hp rfl z1,
     ps_field rfl rfl (by decide) (Kn.old rfl rfl),
     ps_load28 rfl rfl (Kn.tmp 3 rfl rfl rfl) (fun w h => h.c2),
     ps_index (i := 0) rfl rfl l0 hn (Kn.tmp 4 rfl rfl rfl) (Kn.const _),
     ps_load30 rfl rfl (Kn.tmp 5 rfl rfl rfl) (fun w h => h.far p0) (fun w h => h.far q0) (fun w h => h.far r0),
     ps_part 1 rfl (by decide) rfl rfl enters14 rfl (Kn.tmp 2 rfl rfl rfl) (Kn.tmp 6 rfl rfl rfl) (fun w h => sx_node hp (ih x0 (List.mem_of_getElem? h0)) (hf x0 (List.mem_of_getElem? h0)) t0 k0 z2 w h),
     ps_field rfl rfl (by decide) (Kn.old rfl rfl),
     ps_load28 rfl rfl (Kn.tmp 8 rfl rfl rfl) (fun w h => h.c2),
     ps_index (i := 1) rfl rfl l1 hn (Kn.tmp 9 rfl rfl rfl) (Kn.const _),
     ps_load30 rfl rfl (Kn.tmp 10 rfl rfl rfl) (fun w h => h.far p1) (fun w h => h.far q1) (fun w h => h.far r1),
     ps_part 2 rfl (by decide) rfl rfl enters14 rfl (Kn.tmp 7 rfl rfl rfl) (Kn.tmp 11 rfl rfl rfl) (fun w h => sx_node hp (ih x1 (List.mem_of_getElem? h1)) (hf x1 (List.mem_of_getElem? h1)) t1 k1 z3 w h),
     ps_field rfl rfl (by decide) (Kn.old rfl rfl),
     ps_load28 rfl rfl (Kn.tmp 13 rfl rfl rfl) (fun w h => h.c2),
     ps_drop (i := 2) rfl rfl m2 hcap (Kn.tmp 14 rfl rfl rfl),
     ps_part3 3 rfl (by decide) rfl rfl enters40 hE (Kn.tmp 12 rfl rfl rfl) (Kn.const _) (Kn.tmp 15 rfl rfl rfl) (fun w h => sx_perhaps hp (fun x hx => ih x (List.mem_of_mem_drop hx)) (fun x hx => hf x (List.mem_of_mem_drop hx)) (RdK_dropV hr 2 m2) zL w h), trivial⟩
 · intro a w' _ hd hs
   have HF := h_ hs.fin
   clear hs HS y0 hE
   go_wp2
   exact e27 hd ⟨rfl, u_ HF⟩
theorem ip30 (n : Nd) (x0 : Nd) (hk : n.kind = 30) (ih : ∀ x ∈ n.kids, IpC x) (hf : ∀ x ∈ n.kids, fm x = true) (h0 : n.kids[0]? = some x0) : IpT 27 n (fun T => T ++ [[99, 97, 115, 101]] ++ tk x0 ++ [[123]] ++ joinT [] ((n.kids.drop 1).map tk) ++ [[125]]) := by
 intro v W0 w pb T ET ov hr hb hp hpi hE hz
 dsimp only at hE
 rcases RdK_cases hr with ⟨e0, _⟩ | ⟨b, o, c, vs, hv, hn, hcs⟩
 · rw [e0] at h0; cases h0
 subst hv
 have hcap := RdK_cap hr
 have l0 : 0 < n.kids.length := (List.getElem?_eq_some_iff.1 h0).1
 obtain ⟨p0, q0, r0, t0, k0⟩ := hcs 0 x0 h0
 obtain ⟨s0, d0, e0⟩ := RdK_slice k0
 rw [e0] at r0 k0
 have m1 : 1 ≤ n.kids.length := by omega
 clear hcs
 have z5 := hz
 have zL := hE ▸ hz
 have z4 := pre_size (hE ▸ z5)
 have z3 := pre_size z4
 have z2 := pre_size z3
 have z1 := pre_size z2
 have HS := Sx.start (n := n) (nv := .slice (some ⟨b, o, none⟩) n.kids.length c) hb hpi
 have y0 := kind0 w n (.slice (some ⟨b, o, none⟩) n.kids.length c)
 clear hb hpi hz
 have HH := h_ (And.intro hr (And.intro HS (And.intro ih (And.intro hf (And.intro hE (And.intro z1 (And.intro z2 (And.intro z3 (And.intro z4 (And.intro z5 (And.intro zL (And.intro hn (And.intro hcap (And.intro l0 (And.intro p0 (And.intro q0 (And.intro r0 (And.intro t0 (And.intro k0 (And.intro m1 (h0)))))))))))))))))))))
 clear hr HS ih hf hE z1 z2 z3 z4 z5 zL hn hcap l0 p0 q0 r0 t0 k0 m1 h0
 unfold ndV
 rw [hk] at y0 HH ⊢
 go_enter Tryz.func27, Tryz.ntmps27
 go_wp2
 obtain ⟨hr, HS, ih, hf, hE, z1, z2, z3, z4, z5, zL, hn, hcap, l0, p0, q0, r0, t0, k0, m1, h0⟩ := u_ HH
 refine region_prints [aP pb, .arr [[99, 97, 115, 101]], aP pb, aF w 2, aK n b o c, aI b o 0, aN x0 s0 d0, aP pb, .arr [[123]], aP pb, aF w 2, aK n b o c, .val (dropV b o n.kids.length c 1), aP pb, .arr [[125]], aP pb] [2, 7, 9, 13, 15] [T, T ++ [[99, 97, 115, 101]], T ++ [[99, 97, 115, 101]] ++ tk x0, T ++ [[99, 97, 115, 101]] ++ tk x0 ++ [[123]], T ++ [[99, 97, 115, 101]] ++ tk x0 ++ [[123]] ++ joinT [] ((n.kids.drop 1).map tk), ET] 118 rfl (by kernel_rfl) (by kernel_rfl) HS ?_ ?_
 · simp only [PlanSteps]
   exact ⟨ps_move rfl rfl (Kn.old rfl rfl),
     ps_arr1 rfl rfl (Kn.const _),
     ps_put 0 rfl (by decide) rfl rfl (Kn.tmp 0 rfl rfl rfl) (KnA.tmp 1 rfl rfl rfl) hp rfl z1,
     ps_field rfl rfl (by decide) (Kn.old rfl rfl),
     ps_load28 rfl rfl (Kn.tmp 3 rfl rfl rfl) (fun w h => h.c2),
     ps_index (i := 0) rfl rfl l0 hn (Kn.tmp 4 rfl rfl rfl) (Kn.const _),
     ps_load30 rfl rfl (Kn.tmp 5 rfl rfl rfl) (fun w h => h.far p0) (fun w h => h.far q0) (fun w h => h.far r0),
     ps_part 1 rfl (by decide) rfl rfl enters14 rfl (Kn.tmp 2 rfl rfl rfl) (Kn.tmp 6 rfl rfl rfl) (fun w h => sx_node hp (ih x0 (List.mem_of_getElem? h0)) (hf x0 (List.mem_of_getElem? h0)) t0 k0 z2 w h),
     ps_arr1 rfl rfl (Kn.const _),
     ps_put 2 rfl (by decide) rfl rfl (Kn.tmp 7 rfl rfl rfl) (KnA.tmp 8 rfl rfl rfl) hp rfl z3,
     ps_field rfl rfl (by decide) (Kn.old rfl rfl),
     ps_load28 rfl rfl (Kn.tmp 10 rfl rfl rfl) (fun w h => h.c2),
     ps_drop (i := 1) rfl rfl m1 hcap (Kn.tmp 11 rfl rfl rfl),
     ps_part 3 rfl (by decide) rfl rfl enters43 rfl (Kn.tmp 9 rfl rfl rfl) (Kn.tmp 12 rfl rfl rfl) (fun w h => sx_nodes hp (fun x hx => ih x (List.mem_of_mem_drop hx)) (fun x hx => hf x (List.mem_of_mem_drop hx)) (RdK_dropV hr 1 m1) z4 w h),
     ps_arr1 rfl rfl (Kn.const _),
     ps_put 4 rfl (by decide) rfl rfl (Kn.tmp 13 rfl rfl rfl) (KnA.tmp 14 rfl rfl rfl) hp hE z5, trivial⟩
 · intro a w' _ hd hs
   have HF := h_ hs.fin
   clear hs HS y0 hE
   go_wp2
   exact e27 hd ⟨rfl, u_ HF⟩
theorem ip33 (n : Nd) (x0 x1 x2 : Nd) (hk : n.kind = 33) (ih : ∀ x ∈ n.kids, IpC x) (hf : ∀ x ∈ n.kids, fm x = true) (h0 : n.kids[0]? = some x0) (h1 : n.kids[1]? = some x1) (h2 : n.kids[2]? = some x2) : IpT 27 n (fun T => T ++ [[102, 111, 114], L n.text, [61]] ++ tk x0 ++ [[46, 46]] ++ tk x1 ++ tk x2) := by
 intro v W0 w pb T ET ov hr hb hp hpi hE hz
 dsimp only at hE
 rcases RdK_cases hr with ⟨e0, _⟩ | ⟨b, o, c, vs, hv, hn, hcs⟩
 · rw [e0] at h0; cases h0
 subst hv
 have hcap := RdK_cap hr
 have l0 : 0 < n.kids.length := (List.getElem?_eq_some_iff.1 h0).1
 obtain ⟨p0, q0, r0, t0, k0⟩ := hcs 0 x0 h0
 obtain ⟨s0, d0, e0⟩ := RdK_slice k0
 rw [e0] at r0 k0
 have l1 : 1 < n.kids.length := (List.getElem?_eq_some_iff.1 h1).1
 obtain ⟨p1, q1, r1, t1, k1⟩ := hcs 1 x1 h1
 obtain ⟨s1, d1, e1⟩ := RdK_slice k1
 rw [e1] at r1 k1
 have l2 : 2 < n.kids.length := (List.getElem?_eq_some_iff.1 h2).1
 obtain ⟨p2, q2, r2, t2, k2⟩ := hcs 2 x2 h2
 obtain ⟨s2, d2, e2⟩ := RdK_slice k2
 rw [e2] at r2 k2
 clear hcs
 have z5 := hz
 have zL := hE ▸ hz
 have z4 := pre_size (hE ▸ z5)
 have z3 := pre_size z4
 have z2 := pre_size z3
 have z1 := pre_size z2
 have HS := Sx.start (n := n) (nv := .slice (some ⟨b, o, none⟩) n.kids.length c) hb hpi
 have y0 := kind0 w n (.slice (some ⟨b, o, none⟩) n.kids.length c)
 clear hb hpi hz
 have HH := h_ (And.intro hr (And.intro HS (And.intro ih (And.intro hf (And.intro hE (And.intro z1 (And.intro z2 (And.intro z3 (And.intro z4 (And.intro z5 (And.intro zL (And.intro hn (And.intro hcap (And.intro l0 (And.intro p0 (And.intro q0 (And.intro r0 (And.intro t0 (And.intro k0 (And.intro l1 (And.intro p1 (And.intro q1 (And.intro r1 (And.intro t1 (And.intro k1 (And.intro l2 (And.intro p2 (And.intro q2 (And.intro r2 (And.intro t2 (And.intro k2 (And.intro h0 (And.intro h1 (h2))))))))))))))))))))))))))))))))))
 clear hr HS ih hf hE z1 z2 z3 z4 z5 zL hn hcap l0 p0 q0 r0 t0 k0 l1 p1 q1 r1 t1 k1 l2 p2 q2 r2 t2 k2 h0 h1 h2
 unfold ndV
 rw [hk] at y0 HH ⊢
 go_enter Tryz.func27, Tryz.ntmps27
 go_wp2
 obtain ⟨hr, HS, ih, hf, hE, z1, z2, z3, z4, z5, zL, hn, hcap, l0, p0, q0, r0, t0, k0, l1, p1, q1, r1, t1, k1, l2, p2, q2, r2, t2, k2, h0, h1, h2⟩ := u_ HH
 refine region_prints [aP pb, aF w 1, aT n, .arr [[102, 111, 114], L n.text, [61]], aP pb, aF w 2, aK n b o c, aI b o 0, aN x0 s0 d0, aP pb, .arr [[46, 46]], aP pb, aF w 2, aK n b o c, aI b o 1, aN x1 s1 d1, aP pb, aF w 2, aK n b o c, aI b o 2, aN x2 s2 d2, aP pb] [4, 9, 11, 16, 21] [T, T ++ [[102, 111, 114], L n.text, [61]], T ++ [[102, 111, 114], L n.text, [61]] ++ tk x0, T ++ [[102, 111, 114], L n.text, [61]] ++ tk x0 ++ [[46, 46]], T ++ [[102, 111, 114], L n.text, [61]] ++ tk x0 ++ [[46, 46]] ++ tk x1, ET] 118 rfl (by kernel_rfl) (by kernel_rfl) HS ?_ ?_
 · simp only [PlanSteps]
   exact ⟨ps_move rfl rfl (Kn.old rfl rfl),
     ps_field rfl rfl (by decide) (Kn.old rfl rfl),
     ps_load9 rfl rfl (Kn.tmp 1 rfl rfl rfl) (fun w h => h.c1),
     ps_arr3 rfl rfl (Kn.const _) (Kn.tmp 2 rfl rfl rfl) (Kn.const _),
     ps_put 0 rfl (by decide) rfl rfl (Kn.tmp 0 rfl rfl rfl) (KnA.tmp 3 rfl rfl rfl) hp rfl z1,
     ps_field rfl rfl (by decide) (Kn.old rfl rfl),
     ps_load28 rfl rfl (Kn.tmp 5 rfl rfl rfl) (fun w h => h.c2),
     ps_index (i := 0) rfl rfl l0 hn (Kn.tmp 6 rfl rfl rfl) (Kn.const _),
     ps_load30 rfl rfl (Kn.tmp 7 rfl rfl rfl) (fun w h => h.far p0) (fun w h => h.far q0) (fun w h => h.far r0),
     ps_part 1 rfl (by decide) rfl rfl enters14 rfl (Kn.tmp 4 rfl rfl rfl) (Kn.tmp 8 rfl rfl rfl) (fun w h => sx_node hp (ih x0 (List.mem_of_getElem? h0)) (hf x0 (List.mem_of_getElem? h0)) t0 k0 z2 w h),
     ps_arr1 rfl rfl (Kn.const _),
     ps_put 2 rfl (by decide) rfl rfl (Kn.tmp 9 rfl rfl rfl) (KnA.tmp 10 rfl rfl rfl) hp rfl z3,
     ps_field rfl rfl (by decide) (Kn.old rfl rfl),
     ps_load28 rfl rfl (Kn.tmp 12 rfl rfl rfl) (fun w h => h.c2),
     ps_index (i := 1) rfl rfl l1 hn (Kn.tmp 13 rfl rfl rfl) (Kn.const _),
     ps_load30 rfl rfl (Kn.tmp 14 rfl rfl rfl) (fun w h => h.far p1) (fun w h => h.far q1) (fun w h => h.far r1),
     ps_part 3 rfl (by decide) rfl rfl enters14 rfl (Kn.tmp 11 rfl rfl rfl) (Kn.tmp 15 rfl rfl rfl) (fun w h => sx_node hp (ih x1 (List.mem_of_getElem? h1)) (hf x1 (List.mem_of_getElem? h1)) t1 k1 z4 w h),
     ps_field rfl rfl (by decide) (Kn.old rfl rfl),
     ps_load28 rfl rfl (Kn.tmp 17 rfl rfl rfl) (fun w h => h.c2),
     ps_index (i := 2) rfl rfl l2 hn (Kn.tmp 18 rfl rfl rfl) (Kn.const _),
     ps_load30 rfl rfl (Kn.tmp 19 rfl rfl rfl) (fun w h => h.far p2) (fun w h => h.far q2) (fun w h => h.far r2),
     ps_part 4 rfl (by decide) rfl rfl enters14 hE (Kn.tmp 16 rfl rfl rfl) (Kn.tmp 20 rfl rfl rfl) (fun w h => sx_node hp (ih x2 (List.mem_of_getElem? h2)) (hf x2 (List.mem_of_getElem? h2)) t2 k2 zL w h), trivial⟩
 · intro a w' _ hd hs
   have HF := h_ hs.fin
   clear hs HS y0 hE
   go_wp2
   exact e27 hd ⟨rfl, u_ HF⟩
theorem ip34 (n : Nd) (x0 : Nd) (hk : n.kind = 34) (ih : ∀ x ∈ n.kids, IpC x) (hf : ∀ x ∈ n.kids, fm x = true) (h0 : n.kids[0]? = some x0) : IpT 27 n (fun T => T ++ [[119, 97, 105, 116]] ++ tk x0 ++ [[59]]) := by
 intro v W0 w pb T ET ov hr hb hp hpi hE hz
 dsimp only at hE
 rcases RdK_cases hr with ⟨e0, _⟩ | ⟨b, o, c, vs, hv, hn, hcs⟩
 · rw [e0] at h0; cases h0
 subst hv
 have hcap := RdK_cap hr
 have l0 : 0 < n.kids.length := (List.getElem?_eq_some_iff.1 h0).1
 obtain ⟨p0, q0, r0, t0, k0⟩ := hcs 0 x0 h0
 obtain ⟨s0, d0, e0⟩ := RdK_slice k0
 rw [e0] at r0 k0
 clear hcs
 have z3 := hz
 have zL := hE ▸ hz
 have z2 := pre_size (hE ▸ z3)
 have z1 := pre_size z2
 have HS := Sx.start (n := n) (nv := .slice (some ⟨b, o, none⟩) n.kids.length c) hb hpi
 have y0 := kind0 w n (.slice (some ⟨b, o, none⟩) n.kids.length c)
 clear hb hpi hz
 have HH := h_ (And.intro hr (And.intro HS (And.intro ih (And.intro hf (And.intro hE (And.intro z1 (And.intro z2 (And.intro z3 (And.intro zL (And.intro hn (And.intro hcap (And.intro l0 (And.intro p0 (And.intro q0 (And.intro r0 (And.intro t0 (And.intro k0 (h0))))))))))))))))))
 clear hr HS ih hf hE z1 z2 z3 zL hn hcap l0 p0 q0 r0 t0 k0 h0
 unfold ndV
 rw [hk] at y0 HH ⊢
 go_enter Tryz.func27, Tryz.ntmps27
 go_wp2
 obtain ⟨hr, HS, ih, hf, hE, z1, z2, z3, zL, hn, hcap, l0, p0, q0, r0, t0, k0, h0⟩ := u_ HH
 refine region_prints [aP pb, .arr [[119, 97, 105, 116]], aP pb, aF w 2, aK n b o c, aI b o 0, aN x0 s0 d0, aP pb, .arr [[59]], aP pb] [2, 7, 9] [T, T ++ [[119, 97, 105, 116]], T ++ [[119, 97, 105, 116]] ++ tk x0, ET] 118 rfl (by kernel_rfl) (by kernel_rfl) HS ?_ ?_
 · simp only [PlanSteps]
   exact ⟨ps_move rfl rfl (Kn.old rfl rfl),
     ps_arr1 rfl rfl (Kn.const _),
     ps_put 0 rfl (by decide) rfl rfl (Kn.tmp 0 rfl rfl rfl) (KnA.tmp 1 rfl rfl rfl) hp rfl z1,
     ps_field rfl rfl (by decide) (Kn.old rfl rfl),
     ps_load28 rfl rfl (Kn.tmp 3 rfl rfl rfl) (fun w h => h.c2),
     ps_index (i := 0) rfl rfl l0 hn (Kn.tmp 4 rfl rfl rfl) (Kn.const _),
     ps_load30 rfl rfl (Kn.tmp 5 rfl rfl rfl) (fun w h => h.far p0) (fun w h => h.far q0) (fun w h => h.far r0),
     ps_part 1 rfl (by decide) rfl rfl enters14 rfl (Kn.tmp 2 rfl rfl rfl) (Kn.tmp 6 rfl rfl rfl) (fun w h => sx_node hp (ih x0 (List.mem_of_getElem? h0)) (hf x0 (List.mem_of_getElem? h0)) t0 k0 z2 w h),
     ps_arr1 rfl rfl (Kn.const _),
     ps_put 2 rfl (by decide) rfl rfl (Kn.tmp 7 rfl rfl rfl) (KnA.tmp 8 rfl rfl rfl) hp hE z3, trivial⟩
 · intro a w' _ hd hs
   have HF := h_ hs.fin
   clear hs HS y0 hE
   go_wp2
   exact e27 hd ⟨rfl, u_ HF⟩
theorem ip38 (n : Nd) (x0 : Nd) (hk : n.kind = 38) (ih : ∀ x ∈ n.kids, IpC x) (hf : ∀ x ∈ n.kids, fm x = true) (h0 : n.kids[0]? = some x0) : IpT 28 n (fun T => T ++ [L n.text, [91]] ++ tk x0 ++ [[93]]) := by
 intro v W0 w pb T ET ov hr hb hp hpi hE hz
 dsimp only at hE
 rcases RdK_cases hr with ⟨e0, _⟩ | ⟨b, o, c, vs, hv, hn, hcs⟩
 · rw [e0] at h0; cases h0
 subst hv
 have hcap := RdK_cap hr
 have l0 : 0 < n.kids.length := (List.getElem?_eq_some_iff.1 h0).1
 obtain ⟨p0, q0, r0, t0, k0⟩ := hcs 0 x0 h0
 obtain ⟨s0, d0, e0⟩ := RdK_slice k0
 rw [e0] at r0 k0
 clear hcs
 have z3 := hz
 have zL := hE ▸ hz
 have z2 := pre_size (hE ▸ z3)
 have z1 := pre_size z2
 have HS := Sx.start (n := n) (nv := .slice (some ⟨b, o, none⟩) n.kids.length c) hb hpi
 have y0 := kind0 w n (.slice (some ⟨b, o, none⟩) n.kids.length c)
 clear hb hpi hz
 have HH := h_ (And.intro hr (And.intro HS (And.intro ih (And.intro hf (And.intro hE (And.intro z1 (And.intro z2 (And.intro z3 (And.intro zL (And.intro hn (And.intro hcap (And.intro l0 (And.intro p0 (And.intro q0 (And.intro r0 (And.intro t0 (And.intro k0 (h0))))))))))))))))))
 clear hr HS ih hf hE z1 z2 z3 zL hn hcap l0 p0 q0 r0 t0 k0 h0
 unfold ndV
 rw [hk] at y0 HH ⊢
 go_enter Tryz.func28, Tryz.ntmps28
 go_wp2
 obtain ⟨hr, HS, ih, hf, hE, z1, z2, z3, zL, hn, hcap, l0, p0, q0, r0, t0, k0, h0⟩ := u_ HH
 refine region_prints [aP pb, aF w 1, aT n, .arr [L n.text, [91]], aP pb, aF w 2, aK n b o c, aI b o 0, aN x0 s0 d0, aP pb, .arr [[93]], aP pb] [4, 9, 11] [T, T ++ [L n.text, [91]], T ++ [L n.text, [91]] ++ tk x0, ET] 175 rfl (by kernel_rfl) (by kernel_rfl) HS ?_ ?_
 · simp only [PlanSteps]
   exact ⟨ps_move rfl rfl (Kn.old rfl rfl),
     ps_field rfl rfl (by decide) (Kn.old rfl rfl),
     ps_load9 rfl rfl (Kn.tmp 1 rfl rfl rfl) (fun w h => h.c1),
     ps_arr2 rfl rfl (Kn.tmp 2 rfl rfl rfl) (Kn.const _),
     ps_put 0 rfl (by decide) rfl rfl (Kn.tmp 0 rfl rfl rfl) (KnA.tmp 3 rfl rfl rfl) hp rfl z1,
     ps_field rfl rfl (by decide) (Kn.old rfl rfl),
     ps_load28 rfl rfl (Kn.tmp 5 rfl rfl rfl) (fun w h => h.c2),
     ps_index (i := 0) rfl rfl l0 hn (Kn.tmp 6 rfl rfl rfl) (Kn.const _),
     ps_load30 rfl rfl (Kn.tmp 7 rfl rfl rfl) (fun w h => h.far p0) (fun w h => h.far q0) (fun w h => h.far r0),
     ps_part 1 rfl (by decide) rfl rfl enters14 rfl (Kn.tmp 4 rfl rfl rfl) (Kn.tmp 8 rfl rfl rfl) (fun w h => sx_node hp (ih x0 (List.mem_of_getElem? h0)) (hf x0 (List.mem_of_getElem? h0)) t0 k0 z2 w h),
     ps_arr1 rfl rfl (Kn.const _),
     ps_put 2 rfl (by decide) rfl rfl (Kn.tmp 9 rfl rfl rfl) (KnA.tmp 10 rfl rfl rfl) hp hE z3, trivial⟩
 · intro a w' _ hd hs
   have HF := h_ hs.fin
   clear hs HS y0 hE
   go_wp2
   exact e28 hd ⟨rfl, u_ HF⟩
theorem ip39 (n : Nd) (x0 x1 : Nd) (hk : n.kind = 39) (ih : ∀ x ∈ n.kids, IpC x) (hf : ∀ x ∈ n.kids, fm x = true) (h0 : n.kids[0]? = some x0) (h1 : n.kids[1]? = some x1) : IpT 28 n (fun T => T ++ [L n.text, [91]] ++ tk x0 ++ [[58]] ++ tk x1 ++ [[93]]) := by
 intro v W0 w pb T ET ov hr hb hp hpi hE hz
 dsimp only at hE
 rcases RdK_cases hr with ⟨e0, _⟩ | ⟨b, o, c, vs, hv, hn, hcs⟩
 · rw [e0] at h0; cases h0
 subst hv
 have hcap := RdK_cap hr
 have l0 : 0 < n.kids.length := (List.getElem?_eq_some_iff.1 h0).1
 obtain ⟨p0, q0, r0, t0, k0⟩ := hcs 0 x0 h0
 obtain ⟨s0, d0, e0⟩ := RdK_slice k0
 rw [e0] at r0 k0
 have l1 : 1 < n.kids.length := (List.getElem?_eq_some_iff.1 h1).1
 obtain ⟨p1, q1, r1, t1, k1⟩ := hcs 1 x1 h1
 obtain ⟨s1, d1, e1⟩ := RdK_slice k1
 rw [e1] at r1 k1
 clear hcs
 have z5 := hz
 have zL := hE ▸ hz
 have z4 := pre_size (hE ▸ z5)
 have z3 := pre_size z4
 have z2 := pre_size z3
 have z1 := pre_size z2
 have HS := Sx.start (n := n) (nv := .slice (some ⟨b, o, none⟩) n.kids.length c) hb hpi
 have y0 := kind0 w n (.slice (some ⟨b, o, none⟩) n.kids.length c)
 clear hb hpi hz
 have HH := h_ (And.intro hr (And.intro HS (And.intro ih (And.intro hf (And.intro hE (And.intro z1 (And.intro z2 (And.intro z3 (And.intro z4 (And.intro z5 (And.intro zL (And.intro hn (And.intro hcap (And.intro l0 (And.intro p0 (And.intro q0 (And.intro r0 (And.intro t0 (And.intro k0 (And.intro l1 (And.intro p1 (And.intro q1 (And.intro r1 (And.intro t1 (And.intro k1 (And.intro h0 (h1)))))))))))))))))))))))))))
 clear hr HS ih hf hE z1 z2 z3 z4 z5 zL hn hcap l0 p0 q0 r0 t0 k0 l1 p1 q1 r1 t1 k1 h0 h1
 unfold ndV
 rw [hk] at y0 HH ⊢
 go_enter Tryz.func28, Tryz.ntmps28
 go_wp2
 obtain ⟨hr, HS, ih, hf, hE, z1, z2, z3, z4, z5, zL, hn, hcap, l0, p0, q0, r0, t0, k0, l1, p1, q1, r1, t1, k1, h0, h1⟩ := u_ HH
 refine region_prints [aP pb, aF w 1, aT n, .arr [L n.text, [91]], aP pb, aF w 2, aK n b o c, aI b o 0, aN x0 s0 d0, aP pb, .arr [[58]], aP pb, aF w 2, aK n b o c, aI b o 1, aN x1 s1 d1, aP pb, .arr [[93]], aP pb] [4, 9, 11, 16, 18] [T, T ++ [L n.text, [91]], T ++ [L n.text, [91]] ++ tk x0, T ++ [L n.text, [91]] ++ tk x0 ++ [[58]], T ++ [L n.text, [91]] ++ tk x0 ++ [[58]] ++ tk x1, ET] 175 rfl (by kernel_rfl) (by kernel_rfl) HS ?_ ?_
 · simp only [PlanSteps]
   exact ⟨ps_move rfl rfl (Kn.old rfl rfl),
     ps_field rfl rfl (by decide) (Kn.old rfl rfl),
     ps_load9 rfl rfl (Kn.tmp 1 rfl rfl rfl) (fun w h => h.c1),
     ps_arr2 rfl rfl (Kn.tmp 2 rfl rfl rfl) (Kn.const _),
     ps_put 0 rfl (by decide) rfl rfl (Kn.tmp 0 rfl rfl rfl) (KnA.tmp 3 rfl rfl rfl) hp rfl z1,
     ps_field rfl rfl (by decide) (Kn.old rfl rfl),
     ps_load28 rfl rfl (Kn.tmp 5 rfl rfl rfl) (fun w h => h.c2),
     ps_index (i := 0) rfl rfl l0 hn (Kn.tmp 6 rfl rfl rfl) (Kn.const _),
     ps_load30 rfl rfl (Kn.tmp 7 rfl rfl rfl) (fun w h => h.far p0) (fun w h => h.far q0) (fun w h => h.far r0),
     ps_part 1 rfl (by decide) rfl rfl enters14 rfl (Kn.tmp 4 rfl rfl rfl) (Kn.tmp 8 rfl rfl rfl) (fun w h => sx_node hp (ih x0 (List.mem_of_getElem? h0)) (hf x0 (List.mem_of_getElem? h0)) t0 k0 z2 w h),
     ps_arr1 rfl rfl (Kn.const _),
     ps_put 2 rfl (by decide) rfl rfl (Kn.tmp 9 rfl rfl rfl) (KnA.tmp 10 rfl rfl rfl) hp rfl z3,
     ps_field rfl rfl (by decide) (Kn.old rfl rfl),
     ps_load28 rfl rfl (Kn.tmp 12 rfl rfl rfl) (fun w h => h.c2),
     ps_index (i := 1) rfl rfl l1 hn (Kn.tmp 13 rfl rfl rfl) (Kn.const _),
     ps_load30 rfl rfl (Kn.tmp 14 rfl rfl rfl) (fun w h => h.far p1) (fun w h => h.far q1) (fun w h => h.far r1),
     ps_part 3 rfl (by decide) rfl rfl enters14 rfl (Kn.tmp 11 rfl rfl rfl) (Kn.tmp 15 rfl rfl rfl) (fun w h => sx_node hp (ih x1 (List.mem_of_getElem? h1)) (hf x1 (List.mem_of_getElem? h1)) t1 k1 z4 w h),
     ps_arr1 rfl rfl (Kn.const _),
     ps_put 4 rfl (by decide) rfl rfl (Kn.tmp 16 rfl rfl rfl) (KnA.tmp 17 rfl rfl rfl) hp hE z5, trivial⟩
 · intro a w' _ hd hs
   have HF := h_ hs.fin
   clear hs HS y0 hE
   go_wp2
   exact e28 hd ⟨rfl, u_ HF⟩
theorem ip40 (n : Nd) (hk : n.kind = 40) (ih : ∀ x ∈ n.kids, IpC x) (hf : ∀ x ∈ n.kids, fm x = true) : IpT 28 n (fun T => T ++ [L n.text, [40]] ++ joinT [44] (n.kids.map tk) ++ [[41]]) := by
 intro v W0 w pb T ET ov hr hb hp hpi hE hz
 dsimp only at hE
 obtain ⟨a', c', hv⟩ := RdK_slice hr
 subst hv
 have z3 := hz
 have zL := hE ▸ hz
 have z2 := pre_size (hE ▸ z3)
 have z1 := pre_size z2
 have HS := Sx.start (n := n) (nv := .slice a' n.kids.length c') hb hpi
 have y0 := kind0 w n (.slice a' n.kids.length c')
 clear hb hpi hz
 have HH := h_ (And.intro hr (And.intro HS (And.intro ih (And.intro hf (And.intro hE (And.intro z1 (And.intro z2 (And.intro z3 (zL)))))))))
 clear hr HS ih hf hE z1 z2 z3 zL
 unfold ndV
 rw [hk] at y0 HH ⊢
 go_enter Tryz.func28, Tryz.ntmps28
 go_wp2
 obtain ⟨hr, HS, ih, hf, hE, z1, z2, z3, zL⟩ := u_ HH
 refine region_prints [aP pb, aF w 1, aT n, .arr [L n.text, [40]], aP pb, aF w 2, aS n a' c', aP pb, .arr [[41]], aP pb] [4, 7, 9] [T, T ++ [L n.text, [40]], T ++ [L n.text, [40]] ++ joinT [44] (n.kids.map tk), ET] 175 rfl (by kernel_rfl) (by kernel_rfl) HS ?_ ?_
 · simp only [PlanSteps]
   exact ⟨ps_move rfl rfl (Kn.old rfl rfl),
     ps_field rfl rfl (by decide) (Kn.old rfl rfl),
     ps_load9 rfl rfl (Kn.tmp 1 rfl rfl rfl) (fun w h => h.c1),
     ps_arr2 rfl rfl (Kn.tmp 2 rfl rfl rfl) (Kn.const _),
     ps_put 0 rfl (by decide) rfl rfl (Kn.tmp 0 rfl rfl rfl) (KnA.tmp 3 rfl rfl rfl) hp rfl z1,
     ps_field rfl rfl (by decide) (Kn.old rfl rfl),
     ps_load28 rfl rfl (Kn.tmp 5 rfl rfl rfl) (fun w h => h.c2),
     ps_part 1 rfl (by decide) rfl rfl enters41 rfl (Kn.tmp 4 rfl rfl rfl) (Kn.tmp 6 rfl rfl rfl) (fun w h => sx_commas hp ih hf hr z2 w h),
     ps_arr1 rfl rfl (Kn.const _),
     ps_put 2 rfl (by decide) rfl rfl (Kn.tmp 7 rfl rfl rfl) (KnA.tmp 8 rfl rfl rfl) hp hE z3, trivial⟩
 · intro a w' _ hd hs
   have HF := h_ hs.fin
   clear hs HS y0 hE
   go_wp2
   exact e28 hd ⟨rfl, u_ HF⟩
theorem ip41 (n : Nd) (hk : n.kind = 41) (ih : ∀ x ∈ n.kids, IpC x) (hf : ∀ x ∈ n.kids, fm x = true) : IpT 28 n (fun T => T ++ [[123]] ++ joinT [44] (n.kids.map tk) ++ [[125]]) := by
 intro v W0 w pb T ET ov hr hb hp hpi hE hz
 dsimp only at hE
 obtain ⟨a', c', hv⟩ := RdK_slice hr
 subst hv
 have z3 := hz
 have zL := hE ▸ hz
 have z2 := pre_size (hE ▸ z3)
 have z1 := pre_size z2
 have HS := Sx.start (n := n) (nv := .slice a' n.kids.length c') hb hpi
 have y0 := kind0 w n (.slice a' n.kids.length c')
 clear hb hpi hz
 have HH := h_ (And.intro hr (And.intro HS (And.intro ih (And.intro hf (And.intro hE (And.intro z1 (And.intro z2 (And.intro z3 (zL)))))))))
 clear hr HS ih hf hE z1 z2 z3 zL
 unfold ndV
 rw [hk] at y0 HH ⊢
 go_enter Tryz.func28, Tryz.ntmps28
 go_wp2
 obtain ⟨hr, HS, ih, hf, hE, z1, z2, z3, zL⟩ := u_ HH
 refine region_prints [aP pb, .arr [[123]], aP pb, aF w 2, aS n a' c', aP pb, .arr [[125]], aP pb] [2, 5, 7] [T, T ++ [[123]], T ++ [[123]] ++ joinT [44] (n.kids.map tk), ET] 175 rfl (by kernel_rfl) (by kernel_rfl) HS ?_ ?_
 · simp only [PlanSteps]
   exact ⟨ps_move rfl rfl (Kn.old rfl rfl),
     ps_arr1 rfl rfl (Kn.const _),
     ps_put 0 rfl (by decide) rfl rfl (Kn.tmp 0 rfl rfl rfl) (KnA.tmp 1 rfl rfl rfl) hp rfl z1,
     ps_field rfl rfl (by decide) (Kn.old rfl rfl),
     ps_load28 rfl rfl (Kn.tmp 3 rfl rfl rfl) (fun w h => h.c2),
     ps_part 1 rfl (by decide) rfl rfl enters41 rfl (Kn.tmp 2 rfl rfl rfl) (Kn.tmp 4 rfl rfl rfl) (fun w h => sx_commas hp ih hf hr z2 w h),
     ps_arr1 rfl rfl (Kn.const _),
     ps_put 2 rfl (by decide) rfl rfl (Kn.tmp 5 rfl rfl rfl) (KnA.tmp 6 rfl rfl rfl) hp hE z3, trivial⟩
 · intro a w' _ hd hs
   have HF := h_ hs.fin
   clear hs HS y0 hE
   go_wp2
   exact e28 hd ⟨rfl, u_ HF⟩
theorem ip42 (n : Nd) (x0 x1 : Nd) (hk : n.kind = 42) (ih : ∀ x ∈ n.kids, IpC x) (hf : ∀ x ∈ n.kids, fm x = true) (h0 : n.kids[0]? = some x0) (h1 : n.kids[1]? = some x1) : IpT 28 n (fun T => T ++ [[123]] ++ tk x0 ++ [[123]] ++ tk x1 ++ [[125], [125]]) := by
 intro v W0 w pb T ET ov hr hb hp hpi hE hz
 dsimp only at hE
 rcases RdK_cases hr with ⟨e0, _⟩ | ⟨b, o, c, vs, hv, hn, hcs⟩
 · rw [e0] at h0; cases h0
 subst hv
 have hcap := RdK_cap hr
 have l0 : 0 < n.kids.length := (List.getElem?_eq_some_iff.1 h0).1
 obtain ⟨p0, q0, r0, t0, k0⟩ := hcs 0 x0 h0
 obtain ⟨s0, d0, e0⟩ := RdK_slice k0
 rw [e0] at r0 k0
 have l1 : 1 < n.kids.length := (List.getElem?_eq_some_iff.1 h1).1
 obtain ⟨p1, q1, r1, t1, k1⟩ := hcs 1 x1 h1
 obtain ⟨s1, d1, e1⟩ := RdK_slice k1
 rw [e1] at r1 k1
 clear hcs
 have z5 := hz
 have zL := hE ▸ hz
 have z4 := pre_size (hE ▸ z5)
 have z3 := pre_size z4
 have z2 := pre_size z3
 have z1 := pre_size z2
 have HS := Sx.start (n := n) (nv := .slice (some ⟨b, o, none⟩) n.kids.length c) hb hpi
 have y0 := kind0 w n (.slice (some ⟨b, o, none⟩) n.kids.length c)
 clear hb hpi hz
 have HH := h_ (And.intro hr (And.intro HS (And.intro ih (And.intro hf (And.intro hE (And.intro z1 (And.intro z2 (And.intro z3 (And.intro z4 (And.intro z5 (And.intro zL (And.intro hn (And.intro hcap (And.intro l0 (And.intro p0 (And.intro q0 (And.intro r0 (And.intro t0 (And.intro k0 (And.intro l1 (And.intro p1 (And.intro q1 (And.intro r1 (And.intro t1 (And.intro k1 (And.intro h0 (h1)))))))))))))))))))))))))))
 clear hr HS ih hf hE z1 z2 z3 z4 z5 zL hn hcap l0 p0 q0 r0 t0 k0 l1 p1 q1 r1 t1 k1 h0 h1
 unfold ndV
 rw [hk] at y0 HH ⊢
 go_enter Tryz.func28, Tryz.ntmps28
 go_wp2
 obtain ⟨hr, HS, ih, hf, hE, z1, z2, z3, z4, z5, zL, hn, hcap, l0, p0, q0, r0, t0, k0, l1, p1, q1, r1, t1, k1, h0, h1⟩ := u_ HH
 refine region_prints [aP pb, .arr [[123]], aP pb, aF w 2, aK n b o c, aI b o 0, aN x0 s0 d0, aP pb, .arr [[123]], aP pb, aF w 2, aK n b o c, aI b o 1, aN x1 s1 d1, aP pb, .arr [[125], [125]], aP pb] [2, 7, 9, 14, 16] [T, T ++ [[123]], T ++ [[123]] ++ tk x0, T ++ [[123]] ++ tk x0 ++ [[123]], T ++ [[123]] ++ tk x0 ++ [[123]] ++ tk x1, ET] 175 rfl (by kernel_rfl) (by kernel_rfl) HS ?_ ?_
 · simp only [PlanSteps]
   exact ⟨ps_move rfl rfl (Kn.old rfl rfl),
     ps_arr1 rfl rfl (Kn.const _),
     ps_put 0 rfl (by decide) rfl rfl (Kn.tmp 0 rfl rfl rfl) (KnA.tmp 1 rfl rfl rfl) hp rfl z1,
     ps_field rfl rfl (by decide) (Kn.old rfl rfl),
     ps_load28 rfl rfl (Kn.tmp 3 rfl rfl rfl) (fun w h => h.c2),
     ps_index (i := 0) rfl rfl l0 hn (Kn.tmp 4 rfl rfl rfl) (Kn.const _),
     ps_load30 rfl rfl (Kn.tmp 5 rfl rfl rfl) (fun w h => h.far p0) (fun w h => h.far q0) (fun w h => h.far r0),
     ps_part 1 rfl (by decide) rfl rfl enters14 rfl (Kn.tmp 2 rfl rfl rfl) (Kn.tmp 6 rfl rfl rfl) (fun w h => sx_node hp (ih x0 (List.mem_of_getElem? h0)) (hf x0 (List.mem_of_getElem? h0)) t0 k0 z2 w h),
     ps_arr1 rfl rfl (Kn.const _),
     ps_put 2 rfl (by decide) rfl rfl (Kn.tmp 7 rfl rfl rfl) (KnA.tmp 8 rfl rfl rfl) hp rfl z3,
     ps_field rfl rfl (by decide) (Kn.old rfl rfl),
     ps_load28 rfl rfl (Kn.tmp 10 rfl rfl rfl) (fun w h => h.c2),
     ps_index (i := 1) rfl rfl l1 hn (Kn.tmp 11 rfl rfl rfl) (Kn.const _),
     ps_load30 rfl rfl (Kn.tmp 12 rfl rfl rfl) (fun w h => h.far p1) (fun w h => h.far q1) (fun w h => h.far r1),
     ps_part 3 rfl (by decide) rfl rfl enters14 rfl (Kn.tmp 9 rfl rfl rfl) (Kn.tmp 13 rfl rfl rfl) (fun w h => sx_node hp (ih x1 (List.mem_of_getElem? h1)) (hf x1 (List.mem_of_getElem? h1)) t1 k1 z4 w h),
     ps_arr2 rfl rfl (Kn.const _) (Kn.const _),
     ps_put 4 rfl (by decide) rfl rfl (Kn.tmp 14 rfl rfl rfl) (KnA.tmp 15 rfl rfl rfl) hp hE z5, trivial⟩
 · intro a w' _ hd hs
   have HF := h_ hs.fin
   clear hs HS y0 hE
   go_wp2
   exact e28 hd ⟨rfl, u_ HF⟩
theorem ip43 (n : Nd) (x0 : Nd) (hk : n.kind = 43) (ih : ∀ x ∈ n.kids, IpC x) (hf : ∀ x ∈ n.kids, fm x = true) (h0 : n.kids[0]? = some x0) : IpT 28 n (fun T => T ++ [[115, 105, 103, 110, 101, 100], [40]] ++ tk x0 ++ [[41]]) := by
 intro v W0 w pb T ET ov hr hb hp hpi hE hz
 dsimp only at hE
 rcases RdK_cases hr with ⟨e0, _⟩ | ⟨b, o, c, vs, hv, hn, hcs⟩
 · rw [e0] at h0; cases h0
 subst hv
 have hcap := RdK_cap hr
 have l0 : 0 < n.kids.length := (List.getElem?_eq_some_iff.1 h0).1
 obtain ⟨p0, q0, r0, t0, k0⟩ := hcs 0 x0 h0
 obtain ⟨s0, d0, e0⟩ := RdK_slice k0
 rw [e0] at r0 k0
 clear hcs
 have z3 := hz
 have zL := hE ▸ hz
 have z2 := pre_size (hE ▸ z3)
 have z1 := pre_size z2
 have HS := Sx.start (n := n) (nv := .slice (some ⟨b, o, none⟩) n.kids.length c) hb hpi
 have y0 := kind0 w n (.slice (some ⟨b, o, none⟩) n.kids.length c)
 clear hb hpi hz
 have HH := h_ (And.intro hr (And.intro HS (And.intro ih (And.intro hf (And.intro hE (And.intro z1 (And.intro z2 (And.intro z3 (And.intro zL (And.intro hn (And.intro hcap (And.intro l0 (And.intro p0 (And.intro q0 (And.intro r0 (And.intro t0 (And.intro k0 (h0))))))))))))))))))
 clear hr HS ih hf hE z1 z2 z3 zL hn hcap l0 p0 q0 r0 t0 k0 h0
 unfold ndV
 rw [hk] at y0 HH ⊢
 go_enter Tryz.func28, Tryz.ntmps28
 go_wp2
 obtain ⟨hr, HS, ih, hf, hE, z1, z2, z3, zL, hn, hcap, l0, p0, q0, r0, t0, k0, h0⟩ := u_ HH
 refine region_prints [aP pb, .arr [[115, 105, 103, 110, 101, 100], [40]], aP pb, aF w 2, aK n b o c, aI b o 0, aN x0 s0 d0, aP pb, .arr [[41]], aP pb] [2, 7, 9] [T, T ++ [[115, 105, 103, 110, 101, 100], [40]], T ++ [[115, 105, 103, 110, 101, 100], [40]] ++ tk x0, ET] 175 rfl (by kernel_rfl) (by kernel_rfl) HS ?_ ?_
 · simp only [PlanSteps]
   exact ⟨ps_move rfl rfl (Kn.old rfl rfl),
     ps_arr2 rfl rfl (Kn.const _) (Kn.const _),
     ps_put 0 rfl (by decide) rfl rfl (Kn.tmp 0 rfl rfl rfl) (KnA.tmp 1 rfl rfl rfl) hp rfl z1,
     ps_field rfl rfl (by decide) (Kn.old rfl rfl),
     ps_load28 rfl rfl (Kn.tmp 3 rfl rfl rfl) (fun w h => h.c2),
     ps_index (i := 0) rfl rfl l0 hn (Kn.tmp 4 rfl rfl rfl) (Kn.const _),
     ps_load30 rfl rfl (Kn.tmp 5 rfl rfl rfl) (fun w h => h.far p0) (fun w h => h.far q0) (fun w h => h.far r0),
     ps_part 1 rfl (by decide) rfl rfl enters14 rfl (Kn.tmp 2 rfl rfl rfl) (Kn.tmp 6 rfl rfl rfl) (fun w h => sx_node hp (ih x0 (List.mem_of_getElem? h0)) (hf x0 (List.mem_of_getElem? h0)) t0 k0 z2 w h),
     ps_arr1 rfl rfl (Kn.const _),
     ps_put 2 rfl (by decide) rfl rfl (Kn.tmp 7 rfl rfl rfl) (KnA.tmp 8 rfl rfl rfl) hp hE z3, trivial⟩
 · intro a w' _ hd hs
   have HF := h_ hs.fin
   clear hs HS y0 hE
   go_wp2
   exact e28 hd ⟨rfl, u_ HF⟩
theorem ip44 (n : Nd) (x0 : Nd) (hk : n.kind = 44) (ih : ∀ x ∈ n.kids, IpC x) (hf : ∀ x ∈ n.kids, fm x = true) (h0 : n.kids[0]? = some x0) : IpT 28 n (fun T => T ++ [[117, 110, 115, 105, 103, 110, 101, 100], [40]] ++ tk x0 ++ [[41]]) := by
 intro v W0 w pb T ET ov hr hb hp hpi hE hz
 dsimp only at hE
 rcases RdK_cases hr with ⟨e0, _⟩ | ⟨b, o, c, vs, hv, hn, hcs⟩
 · rw [e0] at h0; cases h0
 subst hv
 have hcap := RdK_cap hr
 have l0 : 0 < n.kids.length := (List.getElem?_eq_some_iff.1 h0).1
 obtain ⟨p0, q0, r0, t0, k0⟩ := hcs 0 x0 h0
 obtain ⟨s0, d0, e0⟩ := RdK_slice k0
 rw [e0] at r0 k0
 clear hcs
 have z3 := hz
 have zL := hE ▸ hz
 have z2 := pre_size (hE ▸ z3)
 have z1 := pre_size z2
 have HS := Sx.start (n := n) (nv := .slice (some ⟨b, o, none⟩) n.kids.length c) hb hpi
 have y0 := kind0 w n (.slice (some ⟨b, o, none⟩) n.kids.length c)
 clear hb hpi hz
 have HH := h_ (And.intro hr (And.intro HS (And.intro ih (And.intro hf (And.intro hE (And.intro z1 (And.intro z2 (And.intro z3 (And.intro zL (And.intro hn (And.intro hcap (And.intro l0 (And.intro p0 (And.intro q0 (And.intro r0 (And.intro t0 (And.intro k0 (h0))))))))))))))))))
 clear hr HS ih hf hE z1 z2 z3 zL hn hcap l0 p0 q0 r0 t0 k0 h0
 unfold ndV
 rw [hk] at y0 HH ⊢
 go_enter Tryz.func28, Tryz.ntmps28
 go_wp2
 obtain ⟨hr, HS, ih, hf, hE, z1, z2, z3, zL, hn, hcap, l0, p0, q0, r0, t0, k0, h0⟩ := u_ HH
 refine region_prints [aP pb, .arr [[117, 110, 115, 105, 103, 110, 101, 100], [40]], aP pb, aF w 2, aK n b o c, aI b o 0, aN x0 s0 d0, aP pb, .arr [[41]], aP pb] [2, 7, 9] [T, T ++ [[117, 110, 115, 105, 103, 110, 101, 100], [40]], T ++ [[117, 110, 115, 105, 103, 110, 101, 100], [40]] ++ tk x0, ET] 175 rfl (by kernel_rfl) (by kernel_rfl) HS ?_ ?_
 · simp only [PlanSteps]
   exact ⟨ps_move rfl rfl (Kn.old rfl rfl),
     ps_arr2 rfl rfl (Kn.const _) (Kn.const _),
     ps_put 0 rfl (by decide) rfl rfl (Kn.tmp 0 rfl rfl rfl) (KnA.tmp 1 rfl rfl rfl) hp rfl z1,
     ps_field rfl rfl (by decide) (Kn.old rfl rfl),
     ps_load28 rfl rfl (Kn.tmp 3 rfl rfl rfl) (fun w h => h.c2),
     ps_index (i := 0) rfl rfl l0 hn (Kn.tmp 4 rfl rfl rfl) (Kn.const _),
     ps_load30 rfl rfl (Kn.tmp 5 rfl rfl rfl) (fun w h => h.far p0) (fun w h => h.far q0) (fun w h => h.far r0),
     ps_part 1 rfl (by decide) rfl rfl enters14 rfl (Kn.tmp 2 rfl rfl rfl) (Kn.tmp 6 rfl rfl rfl) (fun w h => sx_node hp (ih x0 (List.mem_of_getElem? h0)) (hf x0 (List.mem_of_getElem? h0)) t0 k0 z2 w h),
     ps_arr1 rfl rfl (Kn.const _),
     ps_put 2 rfl (by decide) rfl rfl (Kn.tmp 7 rfl rfl rfl) (KnA.tmp 8 rfl rfl rfl) hp hE z3, trivial⟩
 · intro a w' _ hd hs
   have HF := h_ hs.fin
   clear hs HS y0 hE
   go_wp2
   exact e28 hd ⟨rfl, u_ HF⟩
theorem ip45 (n : Nd) (x0 : Nd) (hk : n.kind = 45) (ih : ∀ x ∈ n.kids, IpC x) (hf : ∀ x ∈ n.kids, fm x = true) (h0 : n.kids[0]? = some x0) : IpT 28 n (fun T => T ++ [[40], L n.text] ++ tk x0 ++ [[41]]) := by
 intro v W0 w pb T ET ov hr hb hp hpi hE hz
 dsimp only at hE
 rcases RdK_cases hr with ⟨e0, _⟩ | ⟨b, o, c, vs, hv, hn, hcs⟩
 · rw [e0] at h0; cases h0
 subst hv
 have hcap := RdK_cap hr
 have l0 : 0 < n.kids.length := (List.getElem?_eq_some_iff.1 h0).1
 obtain ⟨p0, q0, r0, t0, k0⟩ := hcs 0 x0 h0
 obtain ⟨s0, d0, e0⟩ := RdK_slice k0
 rw [e0] at r0 k0
 clear hcs
 have z3 := hz
 have zL := hE ▸ hz
 have z2 := pre_size (hE ▸ z3)
 have z1 := pre_size z2
 have HS := Sx.start (n := n) (nv := .slice (some ⟨b, o, none⟩) n.kids.length c) hb hpi
 have y0 := kind0 w n (.slice (some ⟨b, o, none⟩) n.kids.length c)
 clear hb hpi hz
 have HH := h_ (And.intro hr (And.intro HS (And.intro ih (And.intro hf (And.intro hE (And.intro z1 (And.intro z2 (And.intro z3 (And.intro zL (And.intro hn (And.intro hcap (And.intro l0 (And.intro p0 (And.intro q0 (And.intro r0 (And.intro t0 (And.intro k0 (h0))))))))))))))))))
 clear hr HS ih hf hE z1 z2 z3 zL hn hcap l0 p0 q0 r0 t0 k0 h0
 unfold ndV
 rw [hk] at y0 HH ⊢
 go_enter Tryz.func28, Tryz.ntmps28
 go_wp2
 obtain ⟨hr, HS, ih, hf, hE, z1, z2, z3, zL, hn, hcap, l0, p0, q0, r0, t0, k0, h0⟩ := u_ HH
 refine region_prints [aP pb, aF w 1, aT n, .arr [[40], L n.text], aP pb, aF w 2, aK n b o c, aI b o 0, aN x0 s0 d0, aP pb, .arr [[41]], aP pb] [4, 9, 11] [T, T ++ [[40], L n.text], T ++ [[40], L n.text] ++ tk x0, ET] 175 rfl (by kernel_rfl) (by kernel_rfl) HS ?_ ?_
 · simp only [PlanSteps]
   exact ⟨ps_move rfl rfl (Kn.old rfl rfl),
     ps_field rfl rfl (by decide) (Kn.old rfl rfl),
     ps_load9 rfl rfl (Kn.tmp 1 rfl rfl rfl) (fun w h => h.c1),
     ps_arr2 rfl rfl (Kn.const _) (Kn.tmp 2 rfl rfl rfl),
     ps_put 0 rfl (by decide) rfl rfl (Kn.tmp 0 rfl rfl rfl) (KnA.tmp 3 rfl rfl rfl) hp rfl z1,
     ps_field rfl rfl (by decide) (Kn.old rfl rfl),
     ps_load28 rfl rfl (Kn.tmp 5 rfl rfl rfl) (fun w h => h.c2),
     ps_index (i := 0) rfl rfl l0 hn (Kn.tmp 6 rfl rfl rfl) (Kn.const _),
     ps_load30 rfl rfl (Kn.tmp 7 rfl rfl rfl) (fun w h => h.far p0) (fun w h => h.far q0) (fun w h => h.far r0),
     ps_part 1 rfl (by decide) rfl rfl enters14 rfl (Kn.tmp 4 rfl rfl rfl) (Kn.tmp 8 rfl rfl rfl) (fun w h => sx_node hp (ih x0 (List.mem_of_getElem? h0)) (hf x0 (List.mem_of_getElem? h0)) t0 k0 z2 w h),
     ps_arr1 rfl rfl (Kn.const _),
     ps_put 2 rfl (by decide) rfl rfl (Kn.tmp 9 rfl rfl rfl) (KnA.tmp 10 rfl rfl rfl) hp hE z3, trivial⟩
 · intro a w' _ hd hs
   have HF := h_ hs.fin
   clear hs HS y0 hE
   go_wp2
   exact e28 hd ⟨rfl, u_ HF⟩
theorem ip46 (n : Nd) (x0 x1 : Nd) (hk : n.kind = 46) (ih : ∀ x ∈ n.kids, IpC x) (hf : ∀ x ∈ n.kids, fm x = true) (h0 : n.kids[0]? = some x0) (h1 : n.kids[1]? = some x1) : IpT 28 n (fun T => T ++ [[40]] ++ tk x0 ++ [L n.text] ++ tk x1 ++ [[41]]) := by
 intro v W0 w pb T ET ov hr hb hp hpi hE hz
 dsimp only at hE
 rcases RdK_cases hr with ⟨e0, _⟩ | ⟨b, o, c, vs, hv, hn, hcs⟩
 · rw [e0] at h0; cases h0
 subst hv
 have hcap := RdK_cap hr
 have l0 : 0 < n.kids.length := (List.getElem?_eq_some_iff.1 h0).1
 obtain ⟨p0, q0, r0, t0, k0⟩ := hcs 0 x0 h0
 obtain ⟨s0, d0, e0⟩ := RdK_slice k0
 rw [e0] at r0 k0
 have l1 : 1 < n.kids.length := (List.getElem?_eq_some_iff.1 h1).1
 obtain ⟨p1, q1, r1, t1, k1⟩ := hcs 1 x1 h1
 obtain ⟨s1, d1, e1⟩ := RdK_slice k1
 rw [e1] at r1 k1
 clear hcs
 have z5 := hz
 have zL := hE ▸ hz
 have z4 := pre_size (hE ▸ z5)
 have z3 := pre_size z4
 have z2 := pre_size z3
 have z1 := pre_size z2
 have HS := Sx.start (n := n) (nv := .slice (some ⟨b, o, none⟩) n.kids.length c) hb hpi
 have y0 := kind0 w n (.slice (some ⟨b, o, none⟩) n.kids.length c)
 clear hb hpi hz
 have HH := h_ (And.intro hr (And.intro HS (And.intro ih (And.intro hf (And.intro hE (And.intro z1 (And.intro z2 (And.intro z3 (And.intro z4 (And.intro z5 (And.intro zL (And.intro hn (And.intro hcap (And.intro l0 (And.intro p0 (And.intro q0 (And.intro r0 (And.intro t0 (And.intro k0 (And.intro l1 (And.intro p1 (And.intro q1 (And.intro r1 (And.intro t1 (And.intro k1 (And.intro h0 (h1)))))))))))))))))))))))))))
 clear hr HS ih hf hE z1 z2 z3 z4 z5 zL hn hcap l0 p0 q0 r0 t0 k0 l1 p1 q1 r1 t1 k1 h0 h1
 unfold ndV
 rw [hk] at y0 HH ⊢
 go_enter Tryz.func28, Tryz.ntmps28
 go_wp2
 obtain ⟨hr, HS, ih, hf, hE, z1, z2, z3, z4, z5, zL, hn, hcap, l0, p0, q0, r0, t0, k0, l1, p1, q1, r1, t1, k1, h0, h1⟩ := u_ HH
 refine region_prints [aP pb, .arr [[40]], aP pb, aF w 2, aK n b o c, aI b o 0, aN x0 s0 d0, aP pb, aF w 1, aT n, .arr [L n.text], aP pb, aF w 2, aK n b o c, aI b o 1, aN x1 s1 d1, aP pb, .arr [[41]], aP pb] [2, 7, 11, 16, 18] [T, T ++ [[40]], T ++ [[40]] ++ tk x0, T ++ [[40]] ++ tk x0 ++ [L n.text], T ++ [[40]] ++ tk x0 ++ [L n.text] ++ tk x1, ET] 175 rfl (by kernel_rfl) (by kernel_rfl) HS ?_ ?_
 · simp only [PlanSteps]
   exact ⟨ps_move rfl rfl (Kn.old rfl rfl),
     ps_arr1 rfl rfl (Kn.const _),
     ps_put 0 rfl (by decide) rfl rfl (Kn.tmp 0 rfl rfl rfl) (KnA.tmp 1 rfl rfl rfl) hp rfl z1,
     ps_field rfl rfl (by decide) (Kn.old rfl rfl),
     ps_load28 rfl rfl (Kn.tmp 3 rfl rfl rfl) (fun w h => h.c2),
     ps_index (i := 0) rfl rfl l0 hn (Kn.tmp 4 rfl rfl rfl) (Kn.const _),
     ps_load30 rfl rfl (Kn.tmp 5 rfl rfl rfl) (fun w h => h.far p0) (fun w h => h.far q0) (fun w h => h.far r0),
     ps_part 1 rfl (by decide) rfl rfl enters14 rfl (Kn.tmp 2 rfl rfl rfl) (Kn.tmp 6 rfl rfl rfl) (fun w h => sx_node hp (ih x0 (List.mem_of_getElem? h0)) (hf x0 (List.mem_of_getElem? h0)) t0 k0 z2 w h),
     ps_field rfl rfl (by decide) (Kn.old rfl rfl),
     ps_load9 rfl rfl (Kn.tmp 8 rfl rfl rfl) (fun w h => h.c1),
     ps_arr1 rfl rfl (Kn.tmp 9 rfl rfl rfl),
     ps_put 2 rfl (by decide) rfl rfl (Kn.tmp 7 rfl rfl rfl) (KnA.tmp 10 rfl rfl rfl) hp rfl z3,
     ps_field rfl rfl (by decide) (Kn.old rfl rfl),
     ps_load28 rfl rfl (Kn.tmp 12 rfl rfl rfl) (fun w h => h.c2),
     ps_index (i := 1) rfl rfl l1 hn (Kn.tmp 13 rfl rfl rfl) (Kn.const _),
     ps_load30 rfl rfl (Kn.tmp 14 rfl rfl rfl) (fun w h => h.far p1) (fun w h => h.far q1) (fun w h => h.far r1),
     ps_part 3 rfl (by decide) rfl rfl enters14 rfl (Kn.tmp 11 rfl rfl rfl) (Kn.tmp 15 rfl rfl rfl) (fun w h => sx_node hp (ih x1 (List.mem_of_getElem? h1)) (hf x1 (List.mem_of_getElem? h1)) t1 k1 z4 w h),
     ps_arr1 rfl rfl (Kn.const _),
     ps_put 4 rfl (by decide) rfl rfl (Kn.tmp 16 rfl rfl rfl) (KnA.tmp 17 rfl rfl rfl) hp hE z5, trivial⟩
 · intro a w' _ hd hs
   have HF := h_ hs.fin
   clear hs HS y0 hE
   go_wp2
   exact e28 hd ⟨rfl, u_ HF⟩
theorem ip47 (n : Nd) (x0 x1 x2 : Nd) (hk : n.kind = 47) (ih : ∀ x ∈ n.kids, IpC x) (hf : ∀ x ∈ n.kids, fm x = true) (h0 : n.kids[0]? = some x0) (h1 : n.kids[1]? = some x1) (h2 : n.kids[2]? = some x2) : IpT 28 n (fun T => T ++ [[40]] ++ tk x0 ++ [[63]] ++ tk x1 ++ [[58]] ++ tk x2 ++ [[41]]) := by
 intro v W0 w pb T ET ov hr hb hp hpi hE hz
 dsimp only at hE
 rcases RdK_cases hr with ⟨e0, _⟩ | ⟨b, o, c, vs, hv, hn, hcs⟩
 · rw [e0] at h0; cases h0
 subst hv
 have hcap := RdK_cap hr
 have l0 : 0 < n.kids.length := (List.getElem?_eq_some_iff.1 h0).1
 obtain ⟨p0, q0, r0, t0, k0⟩ := hcs 0 x0 h0
 obtain ⟨s0, d0, e0⟩ := RdK_slice k0
 rw [e0] at r0 k0
 have l1 : 1 < n.kids.length := (List.getElem?_eq_some_iff.1 h1).1
 obtain ⟨p1, q1, r1, t1, k1⟩ := hcs 1 x1 h1
 obtain ⟨s1, d1, e1⟩ := RdK_slice k1
 rw [e1] at r1 k1
 have l2 : 2 < n.kids.length := (List.getElem?_eq_some_iff.1 h2).1
 obtain ⟨p2, q2, r2, t2, k2⟩ := hcs 2 x2 h2
 obtain ⟨s2, d2, e2⟩ := RdK_slice k2
 rw [e2] at r2 k2
 clear hcs
 have z7 := hz
 have zL := hE ▸ hz
 have z6 := pre_size (hE ▸ z7)
 have z5 := pre_size z6
 have z4 := pre_size z5
 have z3 := pre_size z4
 have z2 := pre_size z3
 have z1 := pre_size z2
 have HS := Sx.start (n := n) (nv := .slice (some ⟨b, o, none⟩) n.kids.length c) hb hpi
 have y0 := kind0 w n (.slice (some ⟨b, o, none⟩) n.kids.length c)
 clear hb hpi hz
 have HH := h_ (And.intro hr (And.intro HS (And.intro ih (And.intro hf (And.intro hE (And.intro z1 (And.intro z2 (And.intro z3 (And.intro z4 (And.intro z5 (And.intro z6 (And.intro z7 (And.intro zL (And.intro hn (And.intro hcap (And.intro l0 (And.intro p0 (And.intro q0 (And.intro r0 (And.intro t0 (And.intro k0 (And.intro l1 (And.intro p1 (And.intro q1 (And.intro r1 (And.intro t1 (And.intro k1 (And.intro l2 (And.intro p2 (And.intro q2 (And.intro r2 (And.intro t2 (And.intro k2 (And.intro h0 (And.intro h1 (h2))))))))))))))))))))))))))))))))))))
 clear hr HS ih hf hE z1 z2 z3 z4 z5 z6 z7 zL hn hcap l0 p0 q0 r0 t0 k0 l1 p1 q1 r1 t1 k1 l2 p2 q2 r2 t2 k2 h0 h1 h2
 unfold ndV
 rw [hk] at y0 HH ⊢
 go_enter Tryz.func28, Tryz.ntmps28
 go_wp2
 obtain ⟨hr, HS, ih, hf, hE, z1, z2, z3, z4, z5, z6, z7, zL, hn, hcap, l0, p0, q0, r0, t0, k0, l1, p1, q1, r1, t1, k1, l2, p2, q2, r2, t2, k2, h0, h1, h2⟩ := u_ HH
 refine region_prints [aP pb, .arr [[40]], aP pb, aF w 2, aK n b o c, aI b o 0, aN x0 s0 d0, aP pb, .arr [[63]], aP pb, aF w 2, aK n b o c, aI b o 1, aN x1 s1 d1, aP pb, .arr [[58]], aP pb, aF w 2, aK n b o c, aI b o 2, aN x2 s2 d2, aP pb, .arr [[41]], aP pb] [2, 7, 9, 14, 16, 21, 23] [T, T ++ [[40]], T ++ [[40]] ++ tk x0, T ++ [[40]] ++ tk x0 ++ [[63]], T ++ [[40]] ++ tk x0 ++ [[63]] ++ tk x1, T ++ [[40]] ++ tk x0 ++ [[63]] ++ tk x1 ++ [[58]], T ++ [[40]] ++ tk x0 ++ [[63]] ++ tk x1 ++ [[58]] ++ tk x2, ET] 175 rfl (by kernel_rfl) (by kernel_rfl) HS ?_ ?_
 · simp only [PlanSteps]
   exact ⟨ps_move rfl rfl (Kn.old rfl rfl),
     ps_arr1 rfl rfl (Kn.const _),
     ps_put 0 rfl (by decide) rfl rfl (Kn.tmp 0 rfl rfl rfl) (KnA.tmp 1 rfl rfl rfl) hp rfl z1,
     ps_field rfl rfl (by decide) (Kn.old rfl rfl),
     ps_load28 rfl rfl (Kn.tmp 3 rfl rfl rfl) (fun w h => h.c2),
     ps_index (i := 0) rfl rfl l0 hn (Kn.tmp 4 rfl rfl rfl) (Kn.const _),
     ps_load30 rfl rfl (Kn.tmp 5 rfl rfl rfl) (fun w h => h.far p0) (fun w h => h.far q0) (fun w h => h.far r0),
     ps_part 1 rfl (by decide) rfl rfl enters14 rfl (Kn.tmp 2 rfl rfl rfl) (Kn.tmp 6 rfl rfl rfl) (fun w h => sx_node hp (ih x0 (List.mem_of_getElem? h0)) (hf x0 (List.mem_of_getElem? h0)) t0 k0 z2 w h),
     ps_arr1 rfl rfl (Kn.const _),
     ps_put 2 rfl (by decide) rfl rfl (Kn.tmp 7 rfl rfl rfl) (KnA.tmp 8 rfl rfl rfl) hp rfl z3,
     ps_field rfl rfl (by decide) (Kn.old rfl rfl),
     ps_load28 rfl rfl (Kn.tmp 10 rfl rfl rfl) (fun w h => h.c2),
     ps_index (i := 1) rfl rfl l1 hn (Kn.tmp 11 rfl rfl rfl) (Kn.const _),
     ps_load30 rfl rfl (Kn.tmp 12 rfl rfl rfl) (fun w h => h.far p1) (fun w h => h.far q1) (fun w h => h.far r1),
     ps_part 3 rfl (by decide) rfl rfl enters14 rfl (Kn.tmp 9 rfl rfl rfl) (Kn.tmp 13 rfl rfl rfl) (fun w h => sx_node hp (ih x1 (List.mem_of_getElem? h1)) (hf x1 (List.mem_of_getElem? h1)) t1 k1 z4 w h),
     ps_arr1 rfl rfl (Kn.const _),
     ps_put 4 rfl (by decide) rfl rfl (Kn.tmp 14 rfl rfl rfl) (KnA.tmp 15 rfl rfl rfl) hp rfl z5,
     ps_field rfl rfl (by decide) (Kn.old rfl rfl),
     ps_load28 rfl rfl (Kn.tmp 17 rfl rfl rfl) (fun w h => h.c2),
     ps_index (i := 2) rfl rfl l2 hn (Kn.tmp 18 rfl rfl rfl) (Kn.const _),
     ps_load30 rfl rfl (Kn.tmp 19 rfl rfl rfl) (fun w h => h.far p2) (fun w h => h.far q2) (fun w h => h.far r2),
     ps_part 5 rfl (by decide) rfl rfl enters14 rfl (Kn.tmp 16 rfl rfl rfl) (Kn.tmp 20 rfl rfl rfl) (fun w h => sx_node hp (ih x2 (List.mem_of_getElem? h2)) (hf x2 (List.mem_of_getElem? h2)) t2 k2 z6 w h),
     ps_arr1 rfl rfl (Kn.const _),
     ps_put 6 rfl (by decide) rfl rfl (Kn.tmp 21 rfl rfl rfl) (KnA.tmp 22 rfl rfl rfl) hp hE z7, trivial⟩
 · intro a w' _ hd hs
   have HF := h_ hs.fin
   clear hs HS y0 hE
   go_wp2
   exact e28 hd ⟨rfl, u_ HF⟩
end Go.Proofs.YtddlokkejglckaaGreatDoor
