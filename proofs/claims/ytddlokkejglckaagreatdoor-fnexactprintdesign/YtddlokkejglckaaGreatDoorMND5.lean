/- Parts of the proof: ND5 to NS1. -/
import Derived.Test.YtddlokkejglckaaGreatDoorMPS13
import Derived.Test.YtddlokkejglckaaGreatDoorMBits
import Derived.Deep.RegionWith
import Derived.Deep.QuietTactic
import Derived.BigQuiet
namespace Go.Proofs.YtddlokkejglckaaGreatDoor
open Go.RowKit Nt
set_option maxHeartbeats 400000
set_option linter.unusedVariables false
set_option maxRecDepth 100000
theorem dep_mk (n : Nd) : dep n = depL n.kids + 1 := by cases n; rw [dep]; rfl
theorem cnt_mk (n : Nd) : cnt n = 1 + cntL n.kids := by cases n; rw [cnt]; rfl
theorem depL_le {ks : List Nd} (h : ∀ x ∈ ks, dep x ≤ sz x + 1) : depL ks ≤ szL ks := by
 induction ks with
 | nil => rw [depL]; exact Nat.zero_le _
 | cons x xs ih =>
   rw [depL, szL]
   have h1 := h x (by simp)
   have h2 := ih (fun y hy => h y (by simp [hy]))
   omega
theorem dep_le : ∀ n, dep n ≤ sz n + 1 := by
 refine Nd.ind fun n ih => ?_
 rw [dep_mk, sz_mk]
 have := depL_le ih
 omega
theorem cntL_le {ks : List Nd} (h : ∀ x ∈ ks, cnt x ≤ sz x + 1) : cntL ks ≤ szL ks := by
 induction ks with
 | nil => rw [cntL]; exact Nat.zero_le _
 | cons x xs ih =>
   rw [cntL, szL]
   have h1 := h x (by simp)
   have h2 := ih (fun y hy => h y (by simp [hy]))
   omega
theorem cnt_le : ∀ n, cnt n ≤ sz n + 1 := by
 refine Nd.ind fun n ih => ?_
 rw [cnt_mk, sz_mk]
 have := cntL_le ih
 omega
theorem depL_append (xs ys : List Nd) : depL (xs ++ ys) = max (depL xs) (depL ys) := by
 induction xs with
 | nil => rw [List.nil_append, depL]; omega
 | cons x xs ih => rw [List.cons_append, depL, depL, ih]; omega
theorem cntL_append (xs ys : List Nd) : cntL (xs ++ ys) = cntL xs + cntL ys := by
 induction xs with
 | nil => rw [List.nil_append, cntL]; omega
 | cons x xs ih => rw [List.cons_append, cntL, cntL, ih]; omega
theorem take_next {ks : List Nd} {i : Nat} {x : Nd} (h : ks[i]? = some x) : ks.take (i + 1) = ks.take i ++ [x] := by
 obtain ⟨hi, rfl⟩ := List.getElem?_eq_some_iff.1 h
 exact List.take_succ_eq_append_getElem hi
theorem depL_next {ks : List Nd} {i : Nat} {x : Nd} (h : ks[i]? = some x) : depL (ks.take (i + 1)) = max (depL (ks.take i)) (dep x) := by
 rw [take_next h, depL_append, depL, depL]; omega
theorem cntL_next {ks : List Nd} {i : Nat} {x : Nd} (h : ks[i]? = some x) : cntL (ks.take (i + 1)) = cntL (ks.take i) + cnt x := by
 rw [take_next h, cntL_append, cntL, cntL]; omega
theorem cntL_take (ks : List Nd) (i : Nat) : cntL (ks.take i) ≤ cntL ks := by
 have : cntL ks = cntL (ks.take i) + cntL (ks.drop i) := by rw [← cntL_append, List.take_append_drop]
 omega
def DpC (n : Nd) : Prop := ∀ (v : Value) (w : World), sz n ≤ 1048576 → RdK w n.kids v →
 CB 23 #[ndV n v] w (.int .i64 (dep n))
theorem dpN : ∀ n, DpC n := by
 refine Nd.ind fun n ih => ?_
 intro v w hl hr
 have hsz := sz_mk n
 have hsm := szL_sm n.kids
 have hdm := dep_mk n
 have HP := h_ ih
 have HR := h_ hr
 clear ih
 unfold ndV
 rcases RdK_cases hr with ⟨h0, a, c, rfl⟩ | ⟨b, o, c, vs, rfl, hn, hcs⟩
 · have hd1 : dep n = 1 := by rw [hdm, h0, depL]
   rw [hd1]
   clear hr HR HP hsz hsm hdm hd1
   generalize n.kind = xk, n.text = xt at *
   go_enter Tryz.func23, Tryz.ntmps23
   go_wp2
   go_loopw [3, 9] (fun m i wr => i = .int .i64 0 ∧ m = .int .i64 0 ∧ Below w.heap.size w wr) (fun m i wr => 0)
   case atStart => exact ⟨rfl, rfl, bal (brf w) _⟩
   case round =>
     obtain ⟨rfl, rfl, hb⟩ := hrel
     have HB := h_ hb
     clear hb
     go_wp2
     exact bodyPost_ret (v := .int .i64 1) (by simp [results, Tryz.results23, go_sem]) rfl ⟨rfl, u_ HB⟩
 · have HC := h_ hcs
   clear hcs hr
   generalize n.kids = ks at *
   generalize n.kind = xk, n.text = xt at *
   go_enter Tryz.func23, Tryz.ntmps23
   go_wp2
   go_loopw [3, 9] (fun m i wr => ∃ j : Nat, j ≤ ks.length ∧ i = .int .i64 j ∧ m = .int .i64 (depL (ks.take j) : Nat) ∧ Below w.heap.size w wr) (fun m i wr => ks.length - (intOf i).toNat)
   case atStart => exact ⟨0, Nat.zero_le _, rfl, by rw [List.take_zero, depL]; rfl, bal (brf w) _⟩
   case round =>
     obtain ⟨j, hj, rfl, rfl, hb⟩ := hrel
     by_cases hjn : j < ks.length
     · have hx : ks[j]? = some ks[j] := List.getElem?_eq_getElem hjn
       generalize ks[j] = x at hx
       obtain ⟨k1, k2, k3, hts, hk⟩ := u_ HC j x hx
       have k1' := c_ hb k1
       have k2' := c_ hb k2
       have k3' := c_ hb k3
       have st := sm_take hx
       have sl := sm_le (ks := ks) (j + 1)
       have PX := h_ (fun (wy : World) (hy : Below wr.heap.size wr wy) => u_ HP x (List.mem_of_getElem? hx) (vs j) wy (by omega) (RdK_later hy (RdK_later hb hk)))
       unfold ndV at PX
       have hdx := dep_le x
       have hnx := depL_next hx
       have hdl : depL (ks.take j) ≤ 1048577 := by
         have h1 := depL_le (ks := ks.take j) (fun y _ => dep_le y)
         have h2 := szL_sm (ks.take j)
         have h3 := sm_le (ks := ks) j
         rw [List.length_take] at h2
         omega
       have HB := h_ hb
       have HX := h_ hnx
       clear hb k1 k2 k3 hk
       obtain ⟨a', c', hv'⟩ := RdK_slice (u_ HC j x hx).2.2.2.2
       rw [hv'] at k3' PX
       generalize x.kind = yk at *
       generalize x.text = yt at *
       generalize hA : depL (ks.take j) = A at *
       generalize hD : dep x = D at *
       go_wp2_with (go_at_call 23; refine (u_ PX _ (by repeat first | exact brf _ | refine bal ?_ _)).mono ?_; rintro e v1 ⟨rfl, hb1⟩)
       refine ⟨⟨j + 1, by omega, by go_num, ?_, btr (bal (u_ HB) _) hb1⟩, by simp [intOf]; omega⟩
       rw [u_ HX]
       congr 1
       split <;> omega
     · obtain rfl : j = ks.length := by omega
       have HB := h_ hb
       clear hb
       have hdl : depL ks ≤ 1048577 := by
         have h1 := depL_le (ks := ks) (fun y _ => dep_le y)
         omega
       rw [List.take_length]
       generalize depL ks = A at *
       go_wp2
       exact bodyPost_ret (v := .int .i64 ((A + 1 : Nat) : Int)) (by simp [results, Tryz.results23, go_sem]) rfl ⟨by rw [hdm], u_ HB⟩
def CtC (n : Nd) : Prop := ∀ (v : Value) (w : World) (most : Nat), sz n ≤ 1048576 → most ≤ 8192 → RdK w n.kids v →
 Calls Tryz.prog 22 #[ndV n v, .int .i64 most] w fun e w' => (∃ r : Nat, e = .returned (.int .i64 r) ∧ (cnt n ≤ most → r = cnt n) ∧ (most < cnt n → most < r ∧ r ≤ cnt n)) ∧ Below w.heap.size w w'
theorem ctN : ∀ n, CtC n := by
 refine Nd.ind fun n ih => ?_
 intro v w most hl hmost hr
 have hsz := sz_mk n
 have hsm := szL_sm n.kids
 have hcm := cnt_mk n
 have HP := h_ ih
 have HR := h_ hr
 clear ih
 unfold ndV
 rcases RdK_cases hr with ⟨h0, a, c, rfl⟩ | ⟨b, o, c, vs, rfl, hn, hcs⟩
 · have hd1 : cnt n = 1 := by rw [hcm, h0, cntL]
   rw [hd1]
   clear hr HR HP hsz hsm hcm hd1
   generalize n.kind = xk, n.text = xt at *
   go_enter Tryz.func22, Tryz.ntmps22
   go_wp2
   go_loopw [5, 11] (fun m i wr => i = .int .i64 0 ∧ m = .int .i64 1 ∧ Below w.heap.size w wr) (fun m i wr => 0)
   case atStart => exact ⟨rfl, rfl, bal (brf w) _⟩
   case round =>
     obtain ⟨rfl, rfl, hb⟩ := hrel
     have HB := h_ hb
     clear hb
     go_wp2
     exact bodyPost_ret (v := .int .i64 1) (by simp [results, Tryz.results22, go_sem]) rfl ⟨⟨1, rfl, fun _ => rfl, fun h => ⟨h, Nat.le_refl _⟩⟩, u_ HB⟩
 · have HC := h_ hcs
   clear hcs hr
   generalize n.kids = ks at *
   generalize n.kind = xk, n.text = xt at *
   go_enter Tryz.func22, Tryz.ntmps22
   go_wp2
   go_loopw [5, 11] (fun m i wr => ∃ (j r : Nat), j ≤ ks.length ∧ i = .int .i64 j ∧ m = .int .i64 r ∧ (1 + cntL (ks.take j) ≤ most → r = 1 + cntL (ks.take j)) ∧ (most < 1 + cntL (ks.take j) → most < r ∧ r ≤ 1 + cntL (ks.take j)) ∧ Below w.heap.size w wr) (fun m i wr => ks.length - (intOf i).toNat)
   case atStart => exact ⟨0, 1, Nat.zero_le _, rfl, rfl, fun _ => by rw [List.take_zero, cntL], fun h => by rw [List.take_zero, cntL] at h ⊢; exact ⟨h, Nat.le_refl _⟩, bal (brf w) _⟩
   case round =>
     obtain ⟨j, r, hj, rfl, rfl, h1, h2, hb⟩ := hrel
     have HB := h_ hb
     have hct := cntL_take ks j
     have hcb : cntL ks ≤ 1048577 := by
       have := cntL_le (ks := ks) (fun y _ => cnt_le y)
       omega
     by_cases hjn : j < ks.length
     · by_cases hrm : most < r
       · have HF : Hid ((cnt n ≤ most → r = cnt n) ∧ (most < cnt n → most < r ∧ r ≤ cnt n)) := h_ ⟨fun h => by omega, fun h => by omega⟩
         have hx : ks[j]? = some ks[j] := List.getElem?_eq_getElem hjn
         generalize ks[j] = x at hx
         obtain ⟨k1, k2, k3, hts, hk⟩ := u_ HC j x hx
         have k1' := c_ hb k1
         have k2' := c_ hb k2
         have k3' := c_ hb k3
         obtain ⟨a', c', hv'⟩ := RdK_slice hk
         rw [hv'] at k3'
         clear hb k1 k2 k3 hk h1 h2
         generalize x.kind = yk at *
         generalize x.text = yt at *
         go_wp2
         exact bodyPost_ret (v := .int .i64 (r : Nat)) (by simp [results, Tryz.results22, go_sem]) rfl ⟨⟨r, rfl, u_ HF⟩, bal (u_ HB) _⟩
       · have hrC : r = 1 + cntL (ks.take j) := h1 (by omega)
         have hx : ks[j]? = some ks[j] := List.getElem?_eq_getElem hjn
         generalize ks[j] = x at hx
         obtain ⟨k1, k2, k3, hts, hk⟩ := u_ HC j x hx
         have k1' := c_ hb k1
         have k2' := c_ hb k2
         have k3' := c_ hb k3
         have st := sm_take hx
         have sl := sm_le (ks := ks) (j + 1)
         have PX := h_ (fun (wy : World) (hy : Below wr.heap.size wr wy) => u_ HP x (List.mem_of_getElem? hx) (vs j) wy (most - r) (by omega) (by omega) (RdK_later hy (RdK_later hb hk)))
         unfold ndV at PX
         obtain ⟨a', c', hv'⟩ := RdK_slice hk
         rw [hv'] at k3' PX
         have hnx := cntL_next hx
         have hcx := cnt_le x
         have e1 : ((most - r : Nat) : Int) = (most : Int) - (r : Int) := by omega
         rw [e1] at PX
         have HX := h_ hnx
         have HRC := h_ hrC
         clear hb k1 k2 k3 hk h1 h2 e1 hnx hrC
         generalize x.kind = yk at *
         generalize x.text = yt at *
         generalize hD : cnt x = D at *
         go_wp2_with (go_at_call 22; refine (u_ PX _ (by repeat first | exact brf _ | refine bal ?_ _)).mono ?_; rintro e v1 ⟨⟨r2, rfl, g1, g2⟩, hb1⟩; have hr2 : r2 ≤ 1048577 := (by rcases Nat.lt_or_ge (most - r) D with h | h; (exact Nat.le_trans (g2 h).2 (by omega)); (rw [g1 h]; omega)))
         have hq := u_ HX
         have hq2 := u_ HRC
         exact ⟨⟨j + 1, r + r2, by omega, by go_num, by go_num, fun h => by have := g1 (by omega); omega, fun h => by rcases Nat.lt_or_ge (most - r) D with h' | h'; (have := g2 h'; omega); (have := g1 h'; omega), btr (bal (u_ HB) _) hb1⟩, by simp [intOf]; omega⟩
     · obtain rfl : j = ks.length := by omega
       rw [List.take_length] at h1 h2
       have HF : Hid ((cnt n ≤ most → r = cnt n) ∧ (most < cnt n → most < r ∧ r ≤ cnt n)) := h_ ⟨fun h => by rw [hcm] at h ⊢; exact h1 h, fun h => by rw [hcm] at h ⊢; exact h2 h⟩
       clear hb h1 h2
       go_wp2
       exact bodyPost_ret (v := .int .i64 (r : Nat)) (by simp [results, Tryz.results22, go_sem]) rfl ⟨⟨r, rfl, u_ HF⟩, u_ HB⟩
def ftB (n : Nd) (deep left : Nat) : Bool := decide (dep n + deep ≤ 41) && decide (cnt n ≤ left)
def Pt (pb : Nat) (left : Nat) (w : World) : Prop := w.cell? ⟨pb, 0, none⟩ = some (.int .i64 left) ∧ w.frozen? ⟨pb, 0, none⟩ = false
theorem gb_trans {a b c : World} {p : Nat} (h : a.grownBy b (some p)) (k : b.grownBy c (some p)) : a.grownBy c (some p) :=
 ⟨k.os.trans h.os, k.tape.trans h.tape, k.output.trans h.output, Nat.le_trans h.size k.size, fun q hq hne => (k.block q (Nat.lt_of_lt_of_le hq h.size) hne).trans (h.block q hq hne)⟩
theorem gb_refl (w : World) (r : Option Nat) : w.grownBy w r := ⟨rfl, rfl, rfl, Nat.le_refl _, fun _ _ _ => rfl⟩
theorem gb_below {w w' : World} (r : Option Nat) (h : Below w.heap.size w w') : w.grownBy w' r := ⟨h.os, h.tape, h.output, h.size, fun k hk _ => h.block k hk⟩
theorem gb_set (w : World) (p o : Nat) (v : Value) : w.grownBy (w.setCell ⟨p, o, none⟩ v) (some p) :=
 ⟨rfl, rfl, rfl, by simp, fun k _ hne => Below.heap_setCell w ⟨p, o, none⟩ v k (fun e => hne (by rw [e]))⟩
def FtC (n : Nd) : Prop := ∀ (v : Value) (W0 w : World) (deep left pb : Nat), deep ≤ 50 → left ≤ 8192 → RdK W0 n.kids v → Below W0.heap.size W0 w → W0.heap.size ≤ pb → Pt pb left w →
 Calls Tryz.prog 18 #[ndV n v, .int .i64 deep, .pointer (some ⟨pb, 0, none⟩)] w fun e w' => e = .returned (.bool (ftB n deep left)) ∧ w.grownBy w' (some pb) ∧ (ftB n deep left = true → Pt pb (left - cnt n) w')
set_option maxHeartbeats 400000 in
theorem ftN : ∀ n, FtC n := by
 refine Nd.ind fun n ih => ?_
 intro v W0 w deep left pb hd hl hr hb hpb hpt
 have hcm := cnt_mk n
 have hdm := dep_mk n
 have HP := h_ ih
 have HPT := h_ hpt
 have hpl : pb < w.heap.size := World.block_lt_of_cell? w _ hpt.1
 obtain ⟨p1, p2⟩ := hpt
 clear ih
 unfold ndV
 by_cases h1 : 40 < deep
 · have HF : Hid (ftB n deep left = false) := h_ (by unfold ftB; rw [decide_eq_false (by omega)]; rfl)
   have q1 : (40 : Int) < (deep : Int) := by omega
   obtain ⟨a0, c0, rfl⟩ := RdK_slice hr
   generalize n.kind = xk, n.text = xt at *
   go_enter Tryz.func18, Tryz.ntmps18
   go_wp2
   exact bodyPost_ret (v := .bool false) (by simp [results, Tryz.results18, go_sem]) rfl ⟨by rw [u_ HF], gb_below _ (bal (brf w) _), fun h => by rw [u_ HF] at h; cases h⟩
 · by_cases h2 : left = 0
   · subst h2
     have HF : Hid (ftB n deep 0 = false) := h_ (by unfold ftB; rw [decide_eq_false (p := cnt n ≤ 0) (by omega), Bool.and_false])
     have q1 : ¬ ((40 : Int) < (deep : Int)) := by omega
     obtain ⟨a0, c0, rfl⟩ := RdK_slice hr
     have p1' : (w.alloc (Obj.cells #[Value.int IntKind.i64 n.kind, Value.string n.text, Value.slice a0 n.kids.length c0] 30)).cell? ⟨pb, 0, none⟩ = some (.int .i64 0) := c_ (bal (brf w) _) p1
     generalize n.kind = xk, n.text = xt at *
     go_enter Tryz.func18, Tryz.ntmps18
     go_wp2
     all_goals exact bodyPost_ret (v := .bool false) (by simp [results, Tryz.results18, go_sem]) rfl ⟨by rw [u_ HF], gb_below _ (bal (brf w) _), fun h => by rw [u_ HF] at h; cases h⟩
   · have q1 : ¬ ((40 : Int) < (deep : Int)) := by omega
     have q2 : ((left : Int) == 0) = false := beq_eq_false_iff_ne.2 (by omega)
     have e1 : ((left - 1 : Nat) : Int) = (left : Int) - 1 := by omega
     obtain ⟨a0, c0, hv0⟩ := RdK_slice hr
     have HV0 := h_ hv0
     subst hv0
     have p1' : (w.alloc (Obj.cells #[Value.int IntKind.i64 n.kind, Value.string n.text, Value.slice a0 n.kids.length c0] 30)).cell? ⟨pb, 0, none⟩ = some (.int .i64 left) := c_ (bal (brf w) _) p1
     have p2' : (w.alloc (Obj.cells #[Value.int IntKind.i64 n.kind, Value.string n.text, Value.slice a0 n.kids.length c0] 30)).frozen? ⟨pb, 0, none⟩ = false := frozen_later (bal (brf w) _) p1 p2
     have z1 : ((w.setCell ⟨pb, 0, none⟩ (.int .i64 ((left : Int) - 1))).alloc (Obj.cells #[Value.int IntKind.i64 n.kind, Value.string n.text, Value.slice a0 n.kids.length c0] 30)).cell? ⟨w.heap.size, 2, none⟩ = some (.slice a0 n.kids.length c0) := by
       have hz : (w.setCell ⟨pb, 0, none⟩ (.int .i64 ((left : Int) - 1))).heap.size = w.heap.size := by simp [World.setCell]
       rw [← hz, World.cell?_alloc_new]; rfl
     have hB1 : Hid (Below W0.heap.size W0 ((w.setCell ⟨pb, 0, none⟩ (.int .i64 ((left : Int) - 1))).alloc (Obj.cells #[Value.int IntKind.i64 n.kind, Value.string n.text, Value.slice a0 n.kids.length c0] 30))) := h_ ((hb.setCell (p := ⟨pb, 0, none⟩) hpb _).alloc (Nat.le_trans hb.size (gb_set w pb 0 _).size) _)
     have hG1 : Hid (w.grownBy ((w.setCell ⟨pb, 0, none⟩ (.int .i64 ((left : Int) - 1))).alloc (Obj.cells #[Value.int IntKind.i64 n.kind, Value.string n.text, Value.slice a0 n.kids.length c0] 30)) (some pb)) := h_ (gb_trans (gb_set w pb 0 _) (gb_below _ (bal (brf _) _)))
     have hP1 : Hid (Pt pb (left - 1) ((w.setCell ⟨pb, 0, none⟩ (.int .i64 ((left : Int) - 1))).alloc (Obj.cells #[Value.int IntKind.i64 n.kind, Value.string n.text, Value.slice a0 n.kids.length c0] 30))) := h_ (by
       have c1 : (w.setCell ⟨pb, 0, none⟩ (.int .i64 ((left : Int) - 1))).cell? ⟨pb, 0, none⟩ = some (.int .i64 ((left : Int) - 1)) := set_same p1
       exact ⟨by rw [e1]; exact c_ (bal (brf _) _) c1, frozen_later (bal (brf _) _) c1 (by rw [set_frozen]; exact p2)⟩)
     generalize n.kind = xk, n.text = xt at *
     go_enter Tryz.func18, Tryz.ntmps18
     go_wp2
     clear p1' p2'
     generalize hw1 : (w.setCell ⟨pb, 0, none⟩ (.int .i64 ((left : Int) - 1))).alloc (Obj.cells #[Value.int IntKind.i64 xk, Value.string xt, Value.slice a0 n.kids.length c0] 30) = w1 at *
     go_loopw [7] (fun i wr => ∃ j : Nat, j ≤ n.kids.length ∧ i = .int .i64 j ∧ w1.grownBy wr (some pb) ∧ Pt pb (left - 1 - cntL (n.kids.take j)) wr ∧ cntL (n.kids.take j) + 1 ≤ left ∧ depL (n.kids.take j) + deep ≤ 40) (fun i wr => n.kids.length - (intOf i).toNat)
     case atStart => exact ⟨0, Nat.zero_le _, rfl, gb_refl _ _, by rw [List.take_zero, cntL]; exact u_ hP1, by rw [List.take_zero, cntL]; omega, by rw [List.take_zero, depL]; omega⟩
     case round =>
       obtain ⟨j, hj, rfl, hg, hp, hc, hdd⟩ := hrel
       have z2 := hg.cell z1 (fun e => absurd (Option.some.inj e) (by show w.heap.size ≠ pb; omega))
       have HG := h_ hg
       have HPj := h_ hp
       by_cases hjn : j < n.kids.length
       · have hx : n.kids[j]? = some n.kids[j] := List.getElem?_eq_getElem hjn
         generalize n.kids[j] = x at hx
         have hbr : Below W0.heap.size W0 wr := (u_ hB1).grown hg (u_ hB1).size (fun k hk => by injection hk; omega)
         rcases RdK_cases hr with ⟨h0, _⟩ | ⟨b, o, c, vs, hvv, hn, hcs⟩
         · rw [h0] at hjn; simp at hjn
         obtain ⟨k1, k2, k3, hts, hk⟩ := hcs j x hx
         have k1' := c_ hbr k1
         have k2' := c_ hbr k2
         have k3' := c_ hbr k3
         have PX := h_ (u_ HP x (List.mem_of_getElem? hx) (vs j) W0 wr (deep + 1) (left - 1 - cntL (n.kids.take j)) pb (by omega) (by omega) hk hbr hpb hp)
         unfold ndV at PX
         have e2 : ((deep + 1 : Nat) : Int) = (deep : Int) + 1 := by omega
         rw [e2] at PX
         obtain ⟨ha0, hc0⟩ : a0 = some ⟨b, o, none⟩ ∧ c0 = c := by injection hvv with h1 h2 h3; exact ⟨h1, h3⟩
         subst ha0 hc0
         obtain ⟨a', c', hv'⟩ := RdK_slice hk
         rw [hv'] at k3' PX
         unfold maxLen at hn
         have hnx := cntL_next hx
         have hdx := depL_next hx
         clear hg hp hk k1 k2 k3 hcs hvv
         have hls : n.kids.length ≤ 9223372036854775807 := by omega
         have hct := cntL_take n.kids (j + 1)
         have hdt : depL (n.kids.take (j + 1)) ≤ depL n.kids := by
           have : depL n.kids = max (depL (n.kids.take (j + 1))) (depL (n.kids.drop (j + 1))) := by rw [← depL_append, List.take_append_drop]
           omega
         cases hft : ftB x (deep + 1) (left - 1 - cntL (n.kids.take j)) with
         | true =>
           rw [hft] at PX
           have hft' : dep x + (deep + 1) ≤ 41 ∧ cnt x ≤ left - 1 - cntL (n.kids.take j) := by unfold ftB at hft; simpa using hft
           generalize x.kind = yk at *
           generalize x.text = yt at *
           go_wp2_with (go_at_call 18; refine (u_ PX).mono ?_; rintro e v1 ⟨rfl, hg1, hp1⟩)
           refine ⟨⟨j + 1, by omega, by go_num, gb_trans (u_ HG) hg1, ?_, by omega, by omega⟩, by simp [intOf]; omega⟩
           have := hp1 (by first | rfl | trivial)
           rw [hnx, show left - 1 - (cntL (n.kids.take j) + cnt x) = left - 1 - cntL (n.kids.take j) - cnt x by omega]
           exact this
         | false =>
           rw [hft] at PX
           have hft' : ¬ (dep x + (deep + 1) ≤ 41 ∧ cnt x ≤ left - 1 - cntL (n.kids.take j)) := by
             intro h
             have : ftB x (deep + 1) (left - 1 - cntL (n.kids.take j)) = true := by unfold ftB; simpa using h
             rw [this] at hft; cases hft
           have HF : Hid (ftB n deep left = false) := h_ (by
             rw [← Bool.not_eq_true]; intro h
             unfold ftB at h
             simp only [Bool.and_eq_true, decide_eq_true_eq] at h
             omega)
           generalize x.kind = yk at *
           generalize x.text = yt at *
           go_wp2_with (go_at_call 18; refine (u_ PX).mono ?_; rintro e v1 ⟨rfl, hg1, hp1⟩)
           exact bodyPost_ret (v := .bool false) (by simp [results, Tryz.results18, go_sem]) rfl ⟨by rw [u_ HF], gb_trans (u_ hG1) (gb_trans (u_ HG) hg1), fun h => by rw [u_ HF] at h; cases h⟩
       · obtain rfl : j = n.kids.length := by omega
         rw [List.take_length] at hc hdd HPj
         have HF : Hid (ftB n deep left = true) := h_ (by unfold ftB; rw [decide_eq_true (by omega), decide_eq_true (by omega)]; rfl)
         have HN : Hid (left - 1 - cntL n.kids = left - cnt n) := h_ (by omega)
         clear hg hp
         go_wp2
         refine bodyPost_ret (v := .bool true) (by simp [results, Tryz.results18, go_sem]) rfl ⟨by rw [u_ HF], gb_trans (u_ hG1) (u_ HG), fun _ => ?_⟩
         rw [← u_ HN]; exact u_ HPj
end Go.Proofs.YtddlokkejglckaaGreatDoor
namespace Go.Proofs.YtddlokkejglckaaGreatDoor
open Go.RowKit

set_option maxHeartbeats 400000
theorem S_cons (c : UInt8) (l : List UInt8) : (⟨#[c]⟩ : ByteArray) ++ S l = S (c :: l) := by
 apply L_inj
 rw [L_S]
 simp [L, S]
theorem and_one_i64 (x : Int) : bits .and .i64 x 1 = x % 2 := by
 show IntKind.i64.wrap ((BitVec.ofInt 64 x &&& BitVec.ofInt 64 1).toNat : Int) = _
 have e : (BitVec.ofInt 64 x &&& BitVec.ofInt 64 1).toNat = (x % 2).toNat := by
   rw [BitVec.toNat_and, show (BitVec.ofInt 64 1).toNat = 1 from rfl, Nat.and_one_is_mod, BitVec.toNat_ofInt]
   omega
 rw [e]
 have h : x % 2 = 0 ∨ x % 2 = 1 := by omega
 rcases h with h | h <;> rw [h] <;> rfl
theorem low_bit (v : Int) (j : Nat) (hj : j < 64) : (v / 2 ^ j % 2 == 1) = (v % 18446744073709551616).toNat.testBit j := by
 rw [Nat.testBit_eq_decide_div_mod_eq]
 have hr : 0 ≤ v % 18446744073709551616 := by omega
 obtain ⟨r, hr'⟩ := Int.eq_ofNat_of_zero_le hr
 have hv : v = r + 2 ^ j * (2 ^ (64 - j) * (v / 18446744073709551616)) := by
   have e : (2 : Int) ^ j * 2 ^ (64 - j) = 18446744073709551616 := by
     rw [← Int.pow_add, show j + (64 - j) = 64 by omega]; rfl
   rw [← Int.mul_assoc, e]; omega
 have hd : v / 2 ^ j = (r : Int) / 2 ^ j + 2 ^ (64 - j) * (v / 18446744073709551616) := by
   have h0 : (2 : Int) ^ j ≠ 0 := Int.pow_ne_zero (by omega)
   have := Int.add_mul_ediv_left (r : Int) (2 ^ (64 - j) * (v / 18446744073709551616)) h0
   rw [← hv] at this; exact this
 have h2 : (2 : Int) ^ (64 - j) = 2 * 2 ^ (63 - j) := by
   rw [show 64 - j = (63 - j) + 1 by omega, Int.pow_succ, Int.mul_comm]
 have hc : (r : Int) / 2 ^ j = ((r / 2 ^ j : Nat) : Int) := by rw [Int.natCast_ediv, Int.natCast_pow]; rfl
 rw [hr', Int.toNat_natCast, hd, h2, Int.mul_assoc, hc, Bool.eq_iff_iff]
 simp only [beq_iff_eq, decide_eq_true_eq]
 omega
theorem sBitsOf (v : Int) (n : Nat) (w : World) (h1 : 1 ≤ n) (h2 : n ≤ 64) :
   Calls Tryz.prog 76 #[.int .i64 v, .int .i64 n] w fun e w' => e = .returned (.string (S (Vb.nTxt n (v % 18446744073709551616).toNat))) ∧ w' = w := by
 have c1 : decide ((n : Int) < 1) = false := by simp; omega
 have c2 : decide (64 < (n : Int)) = false := by simp; omega
 go_enter Tryz.func76, Tryz.ntmps76
 go_wp2
 go_loop [0, 5, 6] (fun x o i => ∃ j : Nat, j ≤ n ∧ i = .int .i64 j ∧ x = .int .i64 (v / 2 ^ j) ∧ o = .string (S (Vb.nTxt j (v % 18446744073709551616).toNat))) (fun _ _ i => n - (intOf i).toNat)
 case atStart => exact ⟨0, Nat.zero_le _, rfl, by simp, rfl⟩
 case round =>
   obtain ⟨j, hj, rfl, rfl, rfl⟩ := hrel
   by_cases hlt : j < n
   · have hs : ¬ 9223372036854775807 < 1 + (S (Vb.nTxt j (v % 18446744073709551616).toNat)).size := by rw [S_size, Vb.nTxt_len]; omega
     have hx : v / 2 ^ j / 2 = v / 2 ^ (j + 1) := by rw [Int.pow_succ, Int.ediv_ediv_of_nonneg (by exact Int.le_of_lt (Int.pow_pos (by omega)))]
     have hbit := low_bit v j (by omega)
     rw [← and_one_i64] at hbit
     have hn : Vb.nTxt (j + 1) (v % 18446744073709551616).toNat = (if (v % 18446744073709551616).toNat.testBit j then 49 else 48) :: Vb.nTxt j (v % 18446744073709551616).toNat := rfl
     have HX := h_ hx
     have HN := h_ hn
     clear hx hn
     generalize v / 2 ^ j = X at *
     generalize Vb.nTxt j (v % 18446744073709551616).toNat = T at *
     cases ht : (v % 18446744073709551616).toNat.testBit j
     · rw [ht] at hbit HN
       clear ht
       go_wp2
       go_round
       case rel => exact ⟨j + 1, by omega, by go_num, by rw [← u_ HX], by rw [u_ HN]; exact congrArg Value.string (S_cons _ _)⟩
       case measure => simp [intOf]; omega
     · rw [ht] at hbit HN
       clear ht
       go_wp2
       go_round
       case rel => exact ⟨j + 1, by omega, by go_num, by rw [← u_ HX], by rw [u_ HN]; exact congrArg Value.string (S_cons _ _)⟩
       case measure => simp [intOf]; omega
   · go_wp2
     go_ret
     have : j = n := by omega
     subst this
     exact ⟨rfl, rfl⟩
theorem sBitsOf_no (v : Int) (n : Int) (w : World) (h : n < 1 ∨ 64 < n) :
   Calls Tryz.prog 76 #[.int .i64 v, .int .i64 n] w fun e w' => e = .returned (.string (S [])) ∧ w' = w := by
 rcases h with h | h
 · go_enter Tryz.func76, Tryz.ntmps76
   go_wp2
   go_ret
   exact ⟨rfl, rfl⟩
 · have h' : ¬ n < 1 := by omega
   go_enter Tryz.func76, Tryz.ntmps76
   go_wp2
   go_ret
   exact ⟨rfl, rfl⟩
def intL (b : Bool) (l : List UInt8) : Int := wrap64 ((Vb.num l : Int) - (if b && Vb.oneB (l.headD 0) then 2 ^ l.length else 0))
theorem intL_no {b : Bool} {l : List UInt8} (h : (b && Vb.oneB (l.headD 0)) = false) : intL b l = wrap64 (Vb.num l) := by
 unfold intL; rw [h]; simp
theorem intL_64 {b : Bool} {l : List UInt8} (h : l.length = 64) : intL b l = wrap64 (Vb.num l) := by
 unfold intL
 cases hb : (b && Vb.oneB (l.headD 0))
 · simp
 · rw [if_pos rfl, h]; unfold wrap64; omega
theorem intL_yes {l : List UInt8} (h : Vb.oneB (l.headD 0) = true) : intL true l = wrap64 ((Vb.num l : Int) - 2 ^ l.length) := by
 unfold intL; rw [h]; simp
theorem one_no {c : UInt8} (h : Vb.oneB c = false) : ((c.toNat : Int) == 49) = false := u8_nq 49 (by omega) (by intro e; rw [e] at h; cases h)
theorem one_yes {c : UInt8} (h : Vb.oneB c = true) : (c.toNat : Int) = 49 := by
 have : c = 49 := by simpa [Vb.oneB] using h
 rw [this]; rfl
theorem wrap_dbl {V : Int} {m : Nat} (h : V = wrap64 m) : wrap64 (V * 2) = wrap64 ((2 * m + 0 : Nat) : Int) := by
 subst h; unfold wrap64; omega
theorem wrap_dbl1 {V : Int} {m : Nat} (h : V = wrap64 m) : wrap64 (wrap64 (V * 2) + 1) = wrap64 ((2 * m + 1 : Nat) : Int) := by
 subst h; unfold wrap64; omega
theorem wrap_pow {P : Int} {k : Nat} (h : P = wrap64 (2 ^ k)) : wrap64 (P * 2) = wrap64 (2 ^ (k + 1)) := by
 subst h; rw [Int.pow_succ]; generalize (2 : Int) ^ k = Z; unfold wrap64; omega
theorem wrap_sub {V P a b : Int} (h : V = wrap64 a) (k : P = wrap64 b) : wrap64 (V - P) = wrap64 (a - b) := by
 subst h k; unfold wrap64; omega
theorem L_head (s : ByteArray) (h : 0 < s.size) : (L s).headD 0 = s[0] := by
 rw [L_get s 0 h, List.headD_eq_head?_getD, List.head?_eq_getElem?, List.getElem?_eq_getElem (by rw [L_len]; exact h)]; rfl
theorem ret_2 {a b : Int} {c : Bool} (h : a = b) : Ending.returned (.tuple #[.int .i64 a, .bool c]) = .returned (.tuple #[.int .i64 b, .bool c]) := by rw [h]
def rszL (n : Nat) (b : Bool) (l : List UInt8) : List UInt8 := (List.replicate (n - l.length) (if b then l.headD 0 else 48) ++ l).drop (l.length - n)
theorem L_extract (s : ByteArray) (a b : Nat) : L (s.extract a b) = ((L s).drop a).take (b - a) := by
 simp [L, ByteArray.data_extract, List.extract_eq_take_drop]
theorem L_append (a b : ByteArray) : L (a ++ b) = L a ++ L b := by simp [L]
def padS (k : Nat) (c : UInt8) (l : List UInt8) : ByteArray := S (List.replicate k c ++ l)
theorem padS_size (k : Nat) (c : UInt8) (s : ByteArray) : (padS k c (L s)).size = k + s.size := by unfold padS; rw [S_size]; simp [L_len]
theorem padS_zero (s : ByteArray) (c : UInt8) : s = padS 0 c (L s) := (S_L s).symm
theorem padS_step (k : Nat) (c : UInt8) (l : List UInt8) : (⟨#[c]⟩ : ByteArray) ++ padS k c l = padS (k + 1) c l := by
 unfold padS; rw [S_cons, List.replicate_succ]; rfl
theorem padS_head (k : Nat) (s : ByteArray) (h : 1 ≤ s.size) : (padS k ((L s).headD 0) (L s)).extract 0 1 ++ padS k ((L s).headD 0) (L s) = padS (k + 1) ((L s).headD 0) (L s) := by
 have e : (padS k ((L s).headD 0) (L s)).extract 0 1 = ⟨#[(L s).headD 0]⟩ := by
   apply L_inj
   rw [L_extract]
   unfold padS
   rw [L_S]
   cases k with
   | zero =>
     cases hl : L s with
     | nil => rw [← L_len, hl] at h; simp at h
     | cons c t => simp [L]
   | succ k => rw [List.replicate_succ]; simp [L]
 rw [e, padS_step]
end Go.Proofs.YtddlokkejglckaaGreatDoor
namespace Go.Proofs.YtddlokkejglckaaGreatDoor
open Vb
theorem rat_append (a b : List UInt8) (i : Nat) : rat (a ++ b) i = if i < b.length then rat b i else rat a (i - b.length) := by
 unfold rat
 rw [List.reverse_append, List.getElem?_append]
 simp
theorem rat_replicate (n i : Nat) (c : UInt8) : rat (List.replicate n c) i = if i < n then some c else none := by
 unfold rat; rw [List.reverse_replicate, List.getElem?_replicate]
theorem rat_drop (l : List UInt8) (d i : Nat) : rat (l.drop d) i = if i < l.length - d then rat l i else none := by
 unfold rat
 rw [List.reverse_drop, List.getElem?_take]
theorem rat_take (l : List UInt8) (d i : Nat) : rat (l.take d) i = rat l (i + (l.length - d)) := by
 unfold rat
 rw [List.reverse_take, List.getElem?_drop, Nat.add_comm]
theorem rat_rsz (n : Nat) (b : Bool) (l : List UInt8) (i : Nat) : rat (rszL n b l) i = if i < n then (if i < l.length then rat l i else some (if b then l.headD 0 else 48)) else none := by
 unfold rszL
 rw [rat_drop, rat_append, rat_replicate, List.length_append, List.length_replicate]
 by_cases h : i < n
 · by_cases h2 : i < l.length
   · simp [h, h2]; omega
   · have h3 : i < n - l.length + l.length - (l.length - n) := by omega
     have h4 : i - l.length < n - l.length := by omega
     simp [h, h2, h3, h4]
 · have h3 : ¬ i < n - l.length + l.length - (l.length - n) := by omega
   simp [h, h3]
theorem letter_rat {l : List UInt8} (hv : l.all isV = true) {i : Nat} (hi : i < l.length) (h64 : i < 64) : some (letter ((kn l).getLsbD i) ((wh l).getLsbD i)) = rat l i := by
 obtain ⟨c, hc, hm⟩ := rat_some hi
 rw [kn, wh, getLsbD_word, getLsbD_word, hc]
 simp only [h64, decide_true, Bool.true_and, Option.map_some, Option.getD_some]
 rw [letter_of c (List.all_eq_true.1 hv c hm)]
theorem rat_head {l : List UInt8} (h : 1 ≤ l.length) : rat l (l.length - 1) = some (l.headD 0) := by
 unfold rat
 rw [List.getElem?_reverse (by omega), show l.length - 1 - (l.length - 1) = 0 by omega]
 cases l with
 | nil => simp at h
 | cons c t => rfl
theorem getLsbD_shr1 (k : BitVec 64) (m : Nat) : (k >>> m &&& ones 1).getLsbD 0 = k.getLsbD m := by
 rw [BitVec.getLsbD_and, BitVec.getLsbD_ushiftRight, getLsbD_ones]; simp
theorem high_bits (a b i : Nat) (hi : i < 64) : (ones a &&& ~~~ones b).getLsbD i = (decide (i < a) && !decide (i < b)) := by
 rw [BitVec.getLsbD_and, BitVec.getLsbD_not, getLsbD_ones, getLsbD_ones]; simp [hi]
theorem rsz_bit (k : BitVec 64) (m n i : Nat) (hi : i < m) (h64 : i < 64) : (k &&& ones m &&& ~~~(ones m &&& ~~~ones n)).getLsbD i = (k.getLsbD i && decide (i < n)) := by
 rw [BitVec.getLsbD_and, BitVec.getLsbD_and, BitVec.getLsbD_not, high_bits m n i h64, getLsbD_ones]
 simp only [h64, hi, decide_true, Bool.true_and, Bool.and_true, Bool.not_not]
theorem rsz_no {l : List UInt8} {m : Nat} (hv : l.all isV = true) (hm : m ≤ 64) :
   txt m (kn l &&& ones m &&& ~~~(ones m &&& ~~~ones l.length) ||| (ones m &&& ~~~ones l.length)) (wh l &&& ones m &&& ~~~(ones m &&& ~~~ones l.length)) = rszL m false l := by
 apply rat_ext
 intro i
 rw [rat_txt, rat_rsz]
 by_cases hi : i < m
 · have h64 : i < 64 := by omega
   rw [if_pos hi, if_pos hi]
   rw [BitVec.getLsbD_or, rsz_bit _ _ _ _ hi h64, rsz_bit _ _ _ _ hi h64, high_bits _ _ _ h64]
   by_cases hl : i < l.length
   · rw [if_pos hl, ← letter_rat hv hl h64]
     simp only [hi, hl, decide_true, Bool.and_true, Bool.not_true, Bool.and_false, Bool.or_false]
   · rw [if_neg hl]
     simp only [hi, hl, decide_true, decide_false, Bool.and_false, Bool.not_false, Bool.and_true, Bool.or_true, letter, Bool.false_eq_true, if_true, if_false]
 · rw [if_neg hi, if_neg hi]
theorem rsz_yes {l : List UInt8} {m : Nat} (hv : l.all isV = true) (h1 : 1 ≤ l.length) (h2 : l.length ≤ 64) (hm : m ≤ 64) :
   txt m (kn l &&& ones m &&& ~~~(ones m &&& ~~~ones l.length) ||| (if (kn l >>> (l.length - 1) &&& ones 1).getLsbD 0 then (ones m &&& ~~~ones l.length) else 0#64)) (wh l &&& ones m &&& ~~~(ones m &&& ~~~ones l.length) ||| (if (wh l >>> (l.length - 1) &&& ones 1).getLsbD 0 then (ones m &&& ~~~ones l.length) else 0#64)) = rszL m true l := by
 apply rat_ext
 intro i
 rw [rat_txt, rat_rsz, getLsbD_shr1, getLsbD_shr1]
 have hh := letter_rat hv (show l.length - 1 < l.length by omega) (by omega)
 rw [rat_head h1] at hh
 generalize hK : (kn l).getLsbD (l.length - 1) = A at *
 generalize hH : (wh l).getLsbD (l.length - 1) = B at *
 by_cases hi : i < m
 · have h64 : i < 64 := by omega
   rw [if_pos hi, if_pos hi]
   rw [BitVec.getLsbD_or, BitVec.getLsbD_or, rsz_bit _ _ _ _ hi h64, rsz_bit _ _ _ _ hi h64]
   have e : ∀ c : Bool, (if c then (ones m &&& ~~~ones l.length) else 0#64).getLsbD i = (c && !decide (i < l.length)) := by
     intro c
     cases c
     · simp
     · rw [if_pos rfl, high_bits _ _ _ h64]; simp [hi]
   rw [e, e]
   by_cases hl : i < l.length
   · rw [if_pos hl, ← letter_rat hv hl h64]
     simp only [hl, decide_true, Bool.and_true, Bool.not_true, Bool.and_false, Bool.or_false]
   · rw [if_neg hl, if_pos rfl, ← hh]
     simp only [hl, decide_false, Bool.and_false, Bool.not_false, Bool.and_true, Bool.false_or]
 · rw [if_neg hi, if_neg hi]
end Go.Proofs.YtddlokkejglckaaGreatDoor
namespace Go.Proofs.YtddlokkejglckaaGreatDoor
open Go.RowKit
def atI (l : List UInt8) (i : Int) : UInt8 := if 0 ≤ i then (Vb.rat l i.toNat).getD 120 else 120
def partL (l : List UInt8) (lo : Int) : Nat → List UInt8
 | 0 => []
 | j + 1 => atI l (lo + j) :: partL l lo j
theorem partL_len (l : List UInt8) (lo : Int) (j : Nat) : (partL l lo j).length = j := by
 induction j with
 | zero => rfl
 | succ j ih => simp [partL, ih]
theorem atI_in (s : ByteArray) (i : Nat) (h : i < s.size) : S [atI (L s) i] = s.extract (s.size - 1 - i) (s.size - i) := by
 apply L_inj
 rw [L_extract, L_S]
 unfold atI Vb.rat
 rw [if_pos (by omega), Int.toNat_natCast, List.getElem?_reverse (by rw [L_len]; exact h), L_len, show s.size - i - (s.size - 1 - i) = 1 by omega]
 have h' : s.size - 1 - i < (L s).length := by rw [L_len]; omega
 rw [List.getElem?_eq_getElem h', List.drop_eq_getElem_cons h']
 rfl
theorem S_app (c : UInt8) (l : List UInt8) : S [c] ++ S l = S (c :: l) := S_cons c l
set_option maxHeartbeats 400000
set_option maxRecDepth 100000
def notB (c : UInt8) : UInt8 := if c = 48 then 49 else if c = 49 then 48 else 120
def andB (a b : UInt8) : UInt8 := if a = 48 ∨ b = 48 then 48 else if a = 49 ∧ b = 49 then 49 else 120
def orB (a b : UInt8) : UInt8 := notB (andB (notB a) (notB b))
def xorB (a b : UInt8) : UInt8 := orB (andB a (notB b)) (andB (notB a) b)
def truthL (l : List UInt8) : UInt8 := if l.any Vb.oneB then 49 else if l.all (fun c => c == 48) then 48 else 120
theorem is8 (c : UInt8) (n : Nat) (hn : n < 256) : (c = UInt8.ofNat n ∧ (c.toNat : Int) = n) ∨ (¬ c = UInt8.ofNat n ∧ ((c.toNat : Int) == n) = false ∧ ((c.toNat : Int) != n) = true) := by
 by_cases h : c = UInt8.ofNat n
 · exact .inl ⟨h, by rw [h, UInt8.toNat_ofNat']; omega⟩
 · exact .inr ⟨h, u8_nq n hn h, u8_ne n hn h⟩
theorem sNot (c : UInt8) (w : World) :
   Calls Tryz.prog 135 #[.int .u8 (c.toNat : Int)] w fun e w' => e = .returned (.int .u8 ((notB c).toNat : Int)) ∧ w' = w := by
 by_cases h0 : c = 48
 · subst h0
   go_enter Tryz.func135, Tryz.ntmps135
   go_wp2
   go_ret
   exact ⟨rfl, rfl⟩
 · by_cases h1 : c = 49
   · subst h1
     go_enter Tryz.func135, Tryz.ntmps135
     go_wp2
     go_ret
     exact ⟨rfl, rfl⟩
   · have n1 : ((c.toNat : Int) == 48) = false := u8_nq 48 (by omega) h0
     have n2 : ((c.toNat : Int) == 49) = false := u8_nq 49 (by omega) h1
     rw [show notB c = 120 by unfold notB; rw [if_neg h0, if_neg h1]]
     clear h0 h1
     go_enter Tryz.func135, Tryz.ntmps135
     go_wp2
     go_ret
     exact ⟨rfl, rfl⟩
theorem sAnd (a b : UInt8) (w : World) :
   Calls Tryz.prog 114 #[.int .u8 (a.toNat : Int), .int .u8 (b.toNat : Int)] w fun e w' => e = .returned (.int .u8 ((andB a b).toNat : Int)) ∧ w' = w := by
 by_cases h0 : a = 48
 · subst h0
   rw [show andB 48 b = 48 by unfold andB; rw [if_pos (.inl rfl)]]
   go_enter Tryz.func114, Tryz.ntmps114
   go_wp2
   go_ret
   exact ⟨rfl, rfl⟩
 · have n1 : ((a.toNat : Int) == 48) = false := u8_nq 48 (by omega) h0
   by_cases h1 : b = 48
   · subst h1
     rw [show andB a 48 = 48 by unfold andB; rw [if_pos (.inr rfl)]]
     clear h0
     go_enter Tryz.func114, Tryz.ntmps114
     go_wp2
     go_ret
     exact ⟨rfl, rfl⟩
   · have n2 : ((b.toNat : Int) == 48) = false := u8_nq 48 (by omega) h1
     by_cases h2 : a = 49
     · by_cases h3 : b = 49
       · subst h2 h3
         clear h0 h1 n1 n2
         go_enter Tryz.func114, Tryz.ntmps114
         go_wp2
         go_ret
         exact ⟨rfl, rfl⟩
       · have n3 : ((b.toNat : Int) == 49) = false := u8_nq 49 (by omega) h3
         rw [show andB a b = 120 by unfold andB; rw [if_neg (by simp [h0, h1]), if_neg (by simp [h3])]]
         subst h2
         clear h0 h1 h3 n1
         go_enter Tryz.func114, Tryz.ntmps114
         go_wp2
         go_ret
         exact ⟨rfl, rfl⟩
     · have n3 : ((a.toNat : Int) == 49) = false := u8_nq 49 (by omega) h2
       rw [show andB a b = 120 by unfold andB; rw [if_neg (by simp [h0, h1]), if_neg (by simp [h2])]]
       clear h0 h1 h2
       go_enter Tryz.func114, Tryz.ntmps114
       go_wp2
       go_ret
       exact ⟨rfl, rfl⟩
theorem sOr (a b : UInt8) (w : World) :
   Calls Tryz.prog 113 #[.int .u8 (a.toNat : Int), .int .u8 (b.toNat : Int)] w fun e w' => e = .returned (.int .u8 ((orB a b).toNat : Int)) ∧ w' = w := by
 go_enter Tryz.func113, Tryz.ntmps113
 go_wp2_with (first | (go_at_call 135; refine (sNot _ _).mono ?_; rintro e w' ⟨rfl, rfl⟩) | (go_at_call 114; refine (sAnd _ _ _).mono ?_; rintro e w' ⟨rfl, rfl⟩))
 go_ret
 exact ⟨rfl, rfl⟩
theorem sXor (a b : UInt8) (w : World) :
   Calls Tryz.prog 112 #[.int .u8 (a.toNat : Int), .int .u8 (b.toNat : Int)] w fun e w' => e = .returned (.int .u8 ((xorB a b).toNat : Int)) ∧ w' = w := by
 go_enter Tryz.func112, Tryz.ntmps112
 go_wp2_with (first | (go_at_call 135; refine (sNot _ _).mono ?_; rintro e w' ⟨rfl, rfl⟩) | (go_at_call 114; refine (sAnd _ _ _).mono ?_; rintro e w' ⟨rfl, rfl⟩) | (go_at_call 113; refine (sOr _ _ _).mono ?_; rintro e w' ⟨rfl, rfl⟩))
 go_ret
 exact ⟨rfl, rfl⟩
theorem any_step {p : UInt8 → Bool} {s : ByteArray} (k : Nat) (hk : k < s.size) : ((L s).take (k + 1)).any p = (((L s).take k).any p || p s[k]) := by
 rw [L_take s k hk, List.any_append]; simp
theorem all_stepB {p : UInt8 → Bool} {s : ByteArray} (k : Nat) (hk : k < s.size) : ((L s).take (k + 1)).all p = (((L s).take k).all p && p s[k]) := by
 rw [L_take s k hk, List.all_append]; simp
theorem any_of {p : UInt8 → Bool} {s : ByteArray} (k : Nat) (hk : k < s.size) (h : p s[k] = true) : (L s).any p = true :=
 List.any_eq_true.2 ⟨_, L_mem s k hk, h⟩
theorem ret_u8 {a b : UInt8} (h : a = b) : Ending.returned (.int .u8 (a.toNat : Int)) = .returned (.int .u8 (b.toNat : Int)) := by rw [h]
def zeroB (c : UInt8) : Bool := c == 48
theorem sTruth (s : ByteArray) (w : World) (hs : s.size ≤ maxLen) :
   Calls Tryz.prog 79 #[.string s] w fun e w' => e = .returned (.int .u8 ((truthL (L s)).toNat : Int)) ∧ w' = w := by
 unfold maxLen at hs
 go_enter Tryz.func79, Tryz.ntmps79
 go_wp2
 go_loop [3, 4] (fun c i => ∃ k : Nat, k ≤ s.size ∧ i = .int .i64 k ∧ ((L s).take k).any Vb.oneB = false ∧ ∃ x : UInt8, c = .int .u8 (x.toNat : Int) ∧ x = (if ((L s).take k).all zeroB then 48 else 120)) (fun _ i => s.size - (intOf i).toNat)
 case atStart => exact ⟨0, Nat.zero_le _, rfl, by simp, 48, rfl, by simp⟩
 case round =>
   obtain ⟨k, hk, rfl, hno, x, rfl, hx⟩ := hrel
   have HN := h_ hno
   have HX := h_ hx
   clear hno hx
   by_cases hlt : k < s.size
   · by_cases e1 : s[k] = 49
     · have e' : (s[k].toNat : Int) = 49 := by rw [e1]; rfl
       have HA : Hid (truthL (L s) = 49) := by
         have : (L s).any Vb.oneB = true := any_of k hlt (by rw [e1]; rfl)
         show _ = _; unfold truthL; rw [this]; rfl
       clear e1
       go_wp2
       go_ret
       exact ⟨by rw [u_ HA]; rfl, rfl⟩
     · have n1 : ((s[k].toNat : Int) == 49) = false := u8_nq 49 (by omega) e1
       have HS : Hid (((L s).take (k + 1)).any Vb.oneB = false) := by
         show _ = false; rw [any_step k hlt, u_ HN]; simp [Vb.oneB, e1]
       by_cases e0 : s[k] = 48
       · have e' : (s[k].toNat : Int) = 48 := by rw [e0]; rfl
         have HT : Hid (x = (if ((L s).take (k + 1)).all zeroB then 48 else 120)) := by
           show _ = _; rw [all_stepB k hlt, e0, u_ HX]; simp [zeroB]
         clear e0 e1 n1
         go_wp2
         go_round
         case rel => exact ⟨k + 1, by omega, by go_num, u_ HS, x, rfl, u_ HT⟩
         case measure => simp [intOf]; omega
       · have n0 : ((s[k].toNat : Int) != 48) = true := u8_ne 48 (by omega) e0
         have HT : Hid ((120 : UInt8) = (if ((L s).take (k + 1)).all zeroB then 48 else 120)) := by
           show _ = _; rw [all_stepB k hlt]; simp [zeroB, e0]
         clear e0 e1
         go_wp2
         go_round
         case rel => exact ⟨k + 1, by omega, by go_num, u_ HS, 120, rfl, u_ HT⟩
         case measure => simp [intOf]; omega
   · go_wp2
     go_ret
     refine ⟨ret_u8 ?_, rfl⟩
     have h := u_ HN
     have h' := u_ HX
     rw [L_take_all s k (by omega)] at h h'
     rw [h']; unfold truthL; rw [h]; rfl
theorem one_string (c : Int) (x : UInt8) (h : c = (x.toNat : Int)) (W : World) : (convert 37 9 (.slice (some ⟨W.heap.size, 0, none⟩) 1 1)).run Tryz.prog (W.alloc (.cells #[.int .u8 c] 5)) = .ok (.string (S [x])) (W.alloc (.cells #[.int .u8 c] 5)) := by
 subst h
 refine run_convert_bytes_back (P := Tryz.prog) _ 37 9 5 ⟨W.heap.size, 0, none⟩ 1 [x] (by kernel_rfl) (by kernel_rfl) (by kernel_rfl) ?_
 intro j hj
 have : j = 0 := by simp at hj; omega
 subst this
 rw [Addr.add_lit, World.cell?_alloc_new]; rfl
theorem S_snoc (l : List UInt8) (c : UInt8) : S l ++ S [c] = S (l ++ [c]) := by
 apply L_inj; rw [L_append, L_S, L_S, L_S]
theorem sFill (c : UInt8) (n : Nat) (w : World) (hn : n ≤ 8192) :
   CB 77 #[.int .u8 (c.toNat : Int), .int .i64 n] w (.string (S (List.replicate n c))) := by
 have hcv := one_string (c.toNat : Int) c rfl
 go_enter Tryz.func77, Tryz.ntmps77
 go_wp2
 go_loopw [5, 6] (fun o i wr => ∃ k : Nat, k ≤ n ∧ i = .int .i64 k ∧ o = .string (S (List.replicate k c)) ∧ Below w.heap.size w wr) (fun _ i _ => n - (intOf i).toNat)
 case atStart => exact ⟨0, Nat.zero_le _, rfl, rfl, brf _⟩
 case round =>
   obtain ⟨k, hk, rfl, rfl, hbel⟩ := hrel
   have hz : (S (List.replicate k c)).size = k := by rw [S_size]; simp
   have st : S (List.replicate k c) ++ S [c] = S (List.replicate (k + 1) c) := by rw [S_snoc, List.replicate_succ']
   have hz1 : (S [c]).size = 1 := by rw [S_size]; rfl
   have ST := h_ st
   clear st
   by_cases hlt : k < n
   · generalize S (List.replicate k c) = T at *
     generalize S [c] = C at *
     go_wp2
     exact ⟨⟨k + 1, by omega, by go_num, congrArg Value.string (u_ ST), bal hbel _⟩, by simp [intOf]; omega⟩
   · have : k = n := by omega
     subst this
     go_wp2
     go_ret
     exact ⟨rfl, hbel⟩
theorem sTr (s : ByteArray) (w : World) (t : UInt8) (hs : s.size ≤ maxLen) (ht : truthL (L s) = t) : Calls Tryz.prog 79 #[.string s] w fun e w' => e = .returned (.int .u8 (t.toNat : Int)) ∧ w = w' :=
 (sTruth s w hs).mono fun _ _ ⟨h, h'⟩ => ⟨by rw [h, ht], h'.symm⟩
def mixB (a b : UInt8) : UInt8 := if a = b ∧ (a = 48 ∨ a = 49) then a else 120
theorem zip_step (f : UInt8 → UInt8 → UInt8) (a b : ByteArray) (k : Nat) (ha : k < a.size) (hb : k < b.size) : List.zipWith f ((L a).take (k + 1)) ((L b).take (k + 1)) = List.zipWith f ((L a).take k) ((L b).take k) ++ [f a[k] b[k]] := by
 rw [L_take a k ha, L_take b k hb, List.zipWith_append (by simp [L_len]; omega)]; rfl
theorem zip_len (f : UInt8 → UInt8 → UInt8) (a b : ByteArray) (k : Nat) (ha : k ≤ a.size) (hb : k ≤ b.size) : (List.zipWith f ((L a).take k) ((L b).take k)).length = k := by
 simp [L_len]; omega
def choL (c a b : List UInt8) : List UInt8 := if truthL c = 49 then a else if truthL c = 48 then b else List.zipWith mixB a b
theorem truthL_cases (l : List UInt8) : truthL l = 49 ∨ truthL l = 48 ∨ truthL l = 120 := by
 unfold truthL; split
 · exact .inl rfl
 · split
   · exact .inr (.inl rfl)
   · exact .inr (.inr rfl)
def bl (b : Bool) : UInt8 := if b then 49 else 48
theorem bl_one (b : Bool) : Vb.oneB (bl b) = b := by cases b <;> rfl
theorem kn_bl {c : UInt8} (h : Vb.knB c = true) : c = bl (Vb.oneB c) := Vb.known_bit h
theorem add_sum (a b x : Bool) : xorB (xorB (bl a) (bl b)) (bl x) = bl (decide ((a.toNat + b.toNat + x.toNat) % 2 = 1)) := by cases a <;> cases b <;> cases x <;> rfl
theorem add_carry (a b x : Bool) : orB (andB (bl a) (bl b)) (andB (bl x) (orB (bl a) (bl b))) = bl (decide ((a.toNat + b.toNat + x.toNat) / 2 = 1)) := by cases a <;> cases b <;> cases x <;> rfl
theorem bit_le (a : Bool) : a.toNat ≤ 1 := by cases a <;> simp
theorem nTxt_step (j v d : Nat) (x : Bool) (hx : v / 2 ^ j = x.toNat) (a b : Bool) (hd : d = (a.toNat + b.toNat) * 2 ^ j + v) :
   Vb.nTxt (j + 1) d = bl (decide ((a.toNat + b.toNat + x.toNat) % 2 = 1)) :: Vb.nTxt j v ∧ d / 2 ^ (j + 1) = (decide ((a.toNat + b.toNat + x.toNat) / 2 = 1)).toNat := by
 have hp : 0 < 2 ^ j := Nat.two_pow_pos j
 have hq : d / 2 ^ j = a.toNat + b.toNat + x.toNat := by
   rw [hd, Nat.add_comm, Nat.add_mul_div_right _ _ hp, hx]; omega
 constructor
 · rw [Vb.nTxt, Nat.testBit_eq_decide_div_mod_eq, hq]
   have e : Vb.nTxt j d = Vb.nTxt j v := Vb.nTxt_congr (by rw [hd, Nat.add_comm, Nat.add_mul_mod_self_right])
   rw [e]; rfl
 · rw [Nat.pow_succ, ← Nat.div_div_eq_div_mul, hq]
   have := bit_le a; have := bit_le b; have := bit_le x
   have h : (a.toNat + b.toNat + x.toNat) / 2 = 0 ∨ (a.toNat + b.toNat + x.toNat) / 2 = 1 := by omega
   rcases h with h | h <;> simp [h]
set_option maxHeartbeats 400000 in
theorem sAdd (a b : ByteArray) (c : Bool) (w : World) (ha : a.size ≤ 70) (hl : a.size = b.size) (ka : (L a).all Vb.knB = true) (kb : (L b).all Vb.knB = true) :
   CB 93 #[.string a, .string b, .int .u8 ((bl c).toNat : Int)] w (.string (S (Vb.nTxt a.size (Vb.num (L a) + Vb.num (L b) + c.toNat)))) := by
 have HL := h_ hl
 have hb : b.size ≤ 70 := by omega
 have KA := h_ ka
 have KB := h_ kb
 clear hl ka kb
 go_enter Tryz.func93, Tryz.ntmps93
 go_wp2
 go_loopw [2, 7, 8] (fun x o i wr => ∃ m : Nat, m ≤ a.size ∧ i = .int .i64 ((m : Int) - 1) ∧ (∃ X : Bool, x = .int .u8 ((bl X).toNat : Int) ∧ (Vb.num ((L a).drop m) + Vb.num ((L b).drop m) + c.toNat) / 2 ^ (a.size - m) = X.toNat) ∧ o = .string (S (Vb.nTxt (a.size - m) (Vb.num ((L a).drop m) + Vb.num ((L b).drop m) + c.toNat))) ∧ Below w.heap.size w wr) (fun _ _ i _ => (intOf i + 1).toNat)
 case atStart =>
   refine ⟨a.size, Nat.le_refl _, rfl, ⟨c, rfl, ?_⟩, ?_, brf _⟩
   · rw [List.drop_of_length_le (by rw [L_len]; exact Nat.le_refl _), List.drop_of_length_le (by rw [L_len, ← u_ HL]; exact Nat.le_refl _)]; simp [Vb.num]
   · rw [Nat.sub_self]; rfl
 case round =>
   obtain ⟨m, hm, rfl, ⟨X, rfl, hX⟩, rfl, hbel⟩ := hrel
   cases m with
   | zero =>
     have HX := h_ hX
     clear hX
     rw [List.drop_zero, List.drop_zero, Nat.sub_zero]
     generalize hT : S (Vb.nTxt a.size (Vb.num (L a) + Vb.num (L b) + c.toNat)) = T
     have HT := h_ hT
     clear hT
     go_wp2
     go_ret
     exact ⟨ret_str (u_ HT).symm, hbel⟩
   | succ m =>
     have hma : m < a.size := by omega
     have hmb : m < b.size := by have := u_ HL; omega
     have st := nTxt_step (a.size - (m + 1)) _ (Vb.num ((L a).drop m) + Vb.num ((L b).drop m) + c.toNat) X hX (Vb.oneB a[m]) (Vb.oneB b[m]) (by
       rw [L_drop a m hma, L_drop b m hmb, Vb.num_cons, Vb.num_cons, List.length_drop, List.length_drop, L_len, L_len, ← u_ HL, Nat.add_mul]; omega)
     rw [show a.size - (m + 1) + 1 = a.size - m by omega] at st
     have e1 := kn_bl (all_of (u_ KA) m hma)
     have e2 := kn_bl (all_of (u_ KB) m hmb)
     have hz : (S (Vb.nTxt (a.size - (m + 1)) (Vb.num ((L a).drop (m + 1)) + Vb.num ((L b).drop (m + 1)) + c.toNat))).size = a.size - (m + 1) := by rw [S_size, Vb.nTxt_len]
     have ST := h_ st
     clear hX st
     generalize hA : Vb.oneB a[m] = A at *
     generalize hB : Vb.oneB b[m] = B at *
     clear hA hB
     generalize hT : S (Vb.nTxt (a.size - (m + 1)) (Vb.num ((L a).drop (m + 1)) + Vb.num ((L b).drop (m + 1)) + c.toNat)) = T at *
     have HT := h_ hT
     clear hT
     rw [show (((m + 1 : Nat) : Int) - 1) = (m : Int) by omega]
     have hcv := one_string ((xorB (xorB (bl A) (bl B)) (bl X)).toNat : Int) (xorB (xorB (bl A) (bl B)) (bl X)) rfl
     have hz1 : (S [xorB (xorB (bl A) (bl B)) (bl X)]).size = 1 := by rw [S_size]; rfl
     go_wp2
     go_quiet ((go_at_call 112; exact Calls.quiet_of_same (sXor _ _ _)))
     have hbq := below_drewN hbel nq
     generalize wr.drewN nq = wq at *
     go_wp2_with fail
     go_quiet ((first | (go_at_call 114; exact Calls.quiet_of_same (sAnd _ _ _)) | (go_at_call 113; exact Calls.quiet_of_same (sOr _ _ _))))
     have hbr := below_drewN hbq nq
     generalize wq.drewN nq = wp at *
     go_wp2
     refine ⟨⟨m, by omega, rfl, ⟨_, by rw [add_carry], (u_ ST).2⟩, congrArg Value.string (by rw [(u_ ST).1, add_sum, ← u_ HT, S_app]), bal hbr _⟩, by simp [intOf]⟩
theorem num_fill0 (n : Nat) : Vb.num (List.replicate n 48) = 0 := by
 induction n with
 | zero => rfl
 | succ n ih => rw [List.replicate_succ, Vb.num_cons, ih]; simp [Vb.oneB]
theorem known_fill0 (n : Nat) : (List.replicate n (48 : UInt8)).all Vb.knB = true := by
 rw [List.all_eq_true]; intro c hc; rw [(List.mem_replicate.1 hc).2]; rfl
theorem known_not {l : List UInt8} (h : l.all Vb.knB = true) : (l.map notB).all Vb.knB = true := by
 rw [List.all_map, List.all_eq_true]
 intro c hc
 have := kn_bl (List.all_eq_true.1 h c hc)
 rw [this]; cases Vb.oneB c <;> rfl
theorem num_not {l : List UInt8} (h : l.all Vb.knB = true) : Vb.num (l.map notB) + Vb.num l + 1 = 2 ^ l.length := by
 induction l with
 | nil => rfl
 | cons c l ih =>
   rw [List.all_cons, Bool.and_eq_true] at h
   have hi := ih h.2
   rw [List.map_cons, Vb.num_cons, Vb.num_cons, List.length_map, List.length_cons, Nat.pow_succ]
   have hc := kn_bl h.1
   rw [hc]
   cases Vb.oneB c
   · have : Vb.oneB (notB (bl false)) = true := rfl
     rw [this, bl_one]; simp; omega
   · have : Vb.oneB (notB (bl true)) = false := rfl
     rw [this, bl_one]; simp; omega
theorem neg_num {l : List UInt8} (h : l.all Vb.knB = true) : Vb.nTxt l.length (0 + Vb.num (l.map notB) + 1) = Vb.nTxt l.length (2 ^ l.length - Vb.num l) := by
 have := num_not h
 rw [show 0 + Vb.num (l.map notB) + 1 = 2 ^ l.length - Vb.num l by omega]
theorem sub_num {a b : List UInt8} (h : b.all Vb.knB = true) (hl : a.length = b.length) : Vb.nTxt a.length (Vb.num a + Vb.num (b.map notB) + 1) = Vb.nTxt a.length (Vb.num a + (2 ^ a.length - Vb.num b)) := by
 have := num_not h
 rw [hl, show Vb.num a + Vb.num (b.map notB) + 1 = Vb.num a + (2 ^ b.length - Vb.num b) by omega]
theorem u8_le (a b : UInt8) : decide (a ≤ b) = decide ((a.toNat : Int) ≤ (b.toNat : Int)) := by
 rw [decide_eq_decide, UInt8.le_iff_toNat_le]; omega
theorem u8b (a b : UInt8) : (a == b) = ((a.toNat : Int) == (b.toNat : Int)) := by
 rw [Bool.eq_iff_iff, beq_iff_eq, beq_iff_eq, ← UInt8.toNat_inj]; omega
theorem sDigit (c : UInt8) (w : World) : Calls Tryz.prog 75 #[.int .u8 (c.toNat : Int)] w fun e w' => e = .returned (.bool (Nb.digB c)) ∧ w' = w := by
 have hd : Nb.digB c = (decide ((48 : Int) ≤ (c.toNat : Int)) && decide ((c.toNat : Int) ≤ 57)) := by
   unfold Nb.digB; rw [u8_le, u8_le]; rfl
 rw [hd]
 generalize (c.toNat : Int) = n
 go_enter Tryz.func75, Tryz.ntmps75
 go_wp2
 all_goals (go_ret; exact ⟨by first | (simp_all; done) | (simp_all; omega), rfl⟩)
theorem sBase (c : UInt8) (w : World) : Calls Tryz.prog 91 #[.int .u8 (c.toNat : Int)] w fun e w' => e = .returned (.bool (Nb.baseB c)) ∧ w' = w := by
 have hd : Nb.baseB c = ((c.toNat : Int) == 98 || (c.toNat : Int) == 111 || (c.toNat : Int) == 104 || (c.toNat : Int) == 100) := by
   unfold Nb.baseB; rw [u8b, u8b, u8b, u8b]; rfl
 rw [hd]
 generalize (c.toNat : Int) = n
 go_enter Tryz.func91, Tryz.ntmps91
 go_wp2
 all_goals (go_ret; exact ⟨by first | (simp_all; done) | (simp_all; omega), rfl⟩)
theorem sValue (c : UInt8) (w : World) : Calls Tryz.prog 92 #[.int .u8 (c.toNat : Int)] w fun e w' => e = .returned (.bool (Nb.valB c)) ∧ w' = w := by
 have hd : Nb.valB c = (Nb.digB c || (decide ((97 : Int) ≤ (c.toNat : Int)) && decide ((c.toNat : Int) ≤ 102)) || (c.toNat : Int) == 120 || (c.toNat : Int) == 122) := by
   unfold Nb.valB; rw [u8_le, u8_le, u8b, u8b]; rfl
 rw [hd]
 have D := h_ (sDigit c w)
 generalize Nb.digB c = g at *
 generalize (c.toNat : Int) = n at *
 go_enter Tryz.func92, Tryz.ntmps92
 go_wp2_with fail
 refine (u_ D).mono ?_
 rintro e w' ⟨rfl, rfl⟩
 cases g
 · go_wp2
   all_goals (go_ret; refine ⟨?_, rfl⟩; first | (rw [show decide ((97 : Int) ≤ n) = false from decide_eq_false (by omega)]; rfl) | (simp_all; done) | (simp_all; omega))
 · go_wp2
   go_ret
   exact ⟨by simp, rfl⟩
theorem gD (s : ByteArray) (i : Nat) (h : i < s.size) : s[i] = (L s).getD i 0 := by
 rw [List.getD_eq_getElem?_getD, List.getElem?_eq_getElem (by rw [L_len]; exact h)]; rfl
theorem numE_1 {l : List UInt8} {a D : Nat} (hD : Nb.runE Nb.digB l a = D) (h : D = a ∨ D = l.length ∨ l.getD D 0 ≠ 39) : Nb.numE l a = (D, decide (a < D)) := by
 unfold Nb.numE; rw [hD, if_pos h]
theorem numE_2 {l : List UInt8} {a D : Nat} (hD : Nb.runE Nb.digB l a = D) (h : ¬ (D = a ∨ D = l.length ∨ l.getD D 0 ≠ 39)) (h1 : l.getD (D + 1) 0 = 115) (h2 : D + 2 = l.length ∨ Nb.baseB (l.getD (D + 2) 0) = false) : Nb.numE l a = (D + 2, false) := by
 unfold Nb.numE; rw [hD, if_neg h, if_pos h1, if_pos h2]
theorem numE_3 {l : List UInt8} {a D : Nat} (hD : Nb.runE Nb.digB l a = D) (h : ¬ (D = a ∨ D = l.length ∨ l.getD D 0 ≠ 39)) (h1 : l.getD (D + 1) 0 = 115) (h2 : ¬ (D + 2 = l.length ∨ Nb.baseB (l.getD (D + 2) 0) = false)) : Nb.numE l a = (Nb.runE Nb.valB l (D + 3), decide (D + 3 < Nb.runE Nb.valB l (D + 3))) := by
 unfold Nb.numE; rw [hD, if_neg h, if_pos h1, if_neg h2]
theorem numE_4 {l : List UInt8} {a D : Nat} (hD : Nb.runE Nb.digB l a = D) (h : ¬ (D = a ∨ D = l.length ∨ l.getD D 0 ≠ 39)) (h1 : ¬ l.getD (D + 1) 0 = 115) (h2 : D + 1 = l.length ∨ Nb.baseB (l.getD (D + 1) 0) = false) : Nb.numE l a = (D + 1, false) := by
 unfold Nb.numE; rw [hD, if_neg h, if_neg h1, if_pos h2]
theorem numE_5 {l : List UInt8} {a D : Nat} (hD : Nb.runE Nb.digB l a = D) (h : ¬ (D = a ∨ D = l.length ∨ l.getD D 0 ≠ 39)) (h1 : ¬ l.getD (D + 1) 0 = 115) (h2 : ¬ (D + 1 = l.length ∨ Nb.baseB (l.getD (D + 1) 0) = false)) : Nb.numE l a = (Nb.runE Nb.valB l (D + 2), decide (D + 2 < Nb.runE Nb.valB l (D + 2))) := by
 unfold Nb.numE; rw [hD, if_neg h, if_neg h1, if_neg h2]
end Go.Proofs.YtddlokkejglckaaGreatDoor
