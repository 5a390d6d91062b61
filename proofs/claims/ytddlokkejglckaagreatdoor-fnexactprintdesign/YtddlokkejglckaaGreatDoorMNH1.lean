/- Parts of the proof: NH1 to PK8. -/
import Derived.Test.YtddlokkejglckaaGreatDoorMNE2
import Derived.Test.YtddlokkejglckaaGreatDoorMRP
import Derived.Test.YtddlokkejglckaaGreatDoorMPS11
import Derived.Test.YtddlokkejglckaaGreatDoorMTK0
namespace Go.Proofs.YtddlokkejglckaaGreatDoor
open Go.RowKit Nt
set_option maxHeartbeats 400000
set_option linter.unusedVariables false
set_option maxRecDepth 100000
theorem bit_of (s m : Nat) (hs : s < 2 ^ 48) : (bits .and .u64 ((s : Int) / 2 ^ m) 1 == 1) = s.testBit m := by
 have hd := Nat.div_le_self s (2 ^ m)
 have h1 : ((s : Int) / 2 ^ m) = U (BitVec.ofNat 64 (s / 2 ^ m)) := by
   rw [U_ofNat, Nat.mod_eq_of_lt (by omega)]
   simp
 have h2 : (1 : Int) = U 1#64 := rfl
 rw [h1, U_and1, h2, U_beq, Nat.testBit_eq_decide_div_mod_eq, Bool.eq_iff_iff, beq_iff_eq, ← BitVec.toNat_inj, decide_eq_true_eq]
 have h3 : (BitVec.ofNat 64 (s / 2 ^ m) &&& 1#64).toNat = s / 2 ^ m % 2 := by
   rw [BitVec.toNat_and, BitVec.toNat_ofNat, Nat.mod_eq_of_lt (by omega)]
   exact Nat.and_one_is_mod _
 rw [h3]
 rfl
theorem iKHas (s : Nat) (k : Int) (w : World) (hs : s < 2 ^ 48) : Calls Tryz.prog 25 #[.int .u64 s, .int .i64 k] w fun e w' => e = .returned (.bool (hasB s k)) ∧ w' = w := by
 by_cases h1 : 1 ≤ k
 · by_cases h2 : k ≤ 47
   · obtain ⟨m, rfl⟩ : ∃ m : Nat, k = m := ⟨k.toNat, by omega⟩
     go_enter Tryz.func25, Tryz.ntmps25
     go_wp2
     go_ret
     refine ⟨ret_bool ?_, rfl⟩
     unfold hasB
     rw [decide_eq_true h1, decide_eq_true h2, Bool.true_and, Bool.true_and, Int.toNat_natCast]
     exact bit_of s m hs
   · have e : hasB s k = false := by unfold hasB; rw [decide_eq_false h2, Bool.and_false, Bool.false_and]
     rw [e]
     go_enter Tryz.func25, Tryz.ntmps25
     go_wp2
     go_ret
     exact ⟨rfl, rfl⟩
 · have e : hasB s k = false := by unfold hasB; rw [decide_eq_false h1, Bool.false_and, Bool.false_and]
   rw [e]
   go_enter Tryz.func25, Tryz.ntmps25
   go_wp2
   go_ret
   exact ⟨rfl, rfl⟩
theorem allK_drop {ks : List Nd} {j : Nat} {x : Nd} (s : Nat) (hdr : ks.drop j = x :: ks.drop (j + 1)) : allK s (ks.drop j) = (hasB s x.kind && allK s (ks.drop (j + 1))) := by rw [hdr]; rfl
theorem iHasAll (s : Nat) (ks : List Nd) (v : Value) (w : World) (hs : s < 2 ^ 48) (hr : RdK w ks v) : CB 56 #[.int .u64 s, v] w (.bool (allK s ks)) := by
 have HH := h_ (fun k w' => iKHas s k w' hs)
 have hl := len_ok hr
 have HR := h_ hr
 obtain ⟨a0, c0, rfl⟩ := RdK_slice hr
 clear hr hs
 go_enter Tryz.func56, Tryz.ntmps56
 go_wp2
 go_loopw [9] (fun i wr => ∃ j : Nat, i = .int .i64 j ∧ j ≤ ks.length ∧ Below w.heap.size w wr ∧ allK s (ks.drop j) = allK s ks) (fun i wr => ks.length - (intOf i).toNat)
 case atStart => exact ⟨0, rfl, Nat.zero_le _, brf _, rfl⟩
 case round =>
   obtain ⟨j, rfl, hj, hb, hall⟩ := hrel
   have HB := h_ hb
   have HA := h_ hall
   by_cases hjn : j < ks.length
   · have hx : ks[j]? = some ks[j] := List.getElem?_eq_getElem hjn
     have hdr := List.drop_eq_getElem_cons hjn
     generalize ks[j] = x at hx hdr
     rcases RdK_cases (u_ HR) with ⟨h0, _⟩ | ⟨b, o, c', vs, hvv, hn, hcs⟩
     · rw [h0] at hjn; simp at hjn
     obtain ⟨k1, k2, k3, hts, hk⟩ := hcs j x hx
     have k1' := c_ hb k1
     have k2' := c_ hb k2
     have k3' := c_ hb k3
     obtain ⟨ha0, hc0⟩ : a0 = some ⟨b, o, none⟩ ∧ c0 = c' := by injection hvv with h1 h2 h3; exact ⟨h1, h3⟩
     subst ha0 hc0
     obtain ⟨a', c'', hv'⟩ := RdK_slice hk
     rw [hv'] at k3'
     rw [allK_drop s hdr] at HA
     have HX := h_ (fun w' => u_ HH x.kind w')
     clear hb k1 k2 k3 hk hcs hvv hall
     cases hok : hasB s x.kind with
     | true =>
       rw [hok] at HX HA
       rw [Bool.true_and] at HA
       clear hok
       generalize x.kind = yk at *
       generalize x.text = yt at *
       go_wp2_with (go_at_call 25; refine (u_ HX _).mono ?_; rintro e w' ⟨rfl, rfl⟩)
       exact ⟨⟨j + 1, by go_num, by omega, bal (u_ HB) _, u_ HA⟩, by simp [intOf]; omega⟩
     | false =>
       rw [hok] at HX HA
       rw [Bool.false_and] at HA
       clear hok
       generalize x.kind = yk at *
       generalize x.text = yt at *
       go_wp2_with (go_at_call 25; refine (u_ HX _).mono ?_; rintro e w' ⟨rfl, rfl⟩)
       exact bodyPost_ret (v := .bool false) (by simp [results, Tryz.results56, go_sem]) rfl ⟨by rw [← u_ HA], bal (u_ HB) _⟩
   · rw [List.drop_of_length_le (by omega)] at HA
     clear hb hall
     go_wp2
     exact bodyPost_ret (v := .bool true) (by simp [results, Tryz.results56, go_sem]) rfl ⟨by rw [← u_ HA]; rfl, u_ HB⟩
theorem fitK_len : ∀ (ks : List Nd) (ss : List Nat), ks.length ≠ ss.length → fitK ks ss = false := by
 intro ks
 induction ks with
 | nil => intro ss h; cases ss with
   | nil => exact absurd rfl h
   | cons c cs => rfl
 | cons x xs ih => intro ss h; cases ss with
   | nil => rfl
   | cons c cs =>
     show (hasB c x.kind && fitK xs cs) = false
     rw [ih cs (by simpa using h), Bool.and_false]
theorem iFit (ks : List Nd) (ss : List Nat) (v : Value) (bs os cs : Nat) (w : World) (hs : ∀ s ∈ ss, s < 2 ^ 48) (h3 : ss.length ≤ 3) (hr : RdK w ks v) (hS : ∀ i s : Nat, ss[i]? = some s → w.cell? ⟨bs, os + i, none⟩ = some (.int .u64 (s : Int))) :
   CB 55 #[v, .slice (some ⟨bs, os, none⟩) ss.length cs] w (.bool (fitK ks ss)) := by
 have hl := len_ok hr
 have HR := h_ hr
 have HS := h_ hS
 have HH := h_ (fun s (h : s ∈ ss) k w' => iKHas s k w' (hs s h))
 obtain ⟨a0, c0, rfl⟩ := RdK_slice hr
 clear hr hs hS
 by_cases hne : ks.length = ss.length
 · have q1 : ((ks.length : Int) != (ss.length : Int)) = false := by rw [hne, bne]; simp
   have hle : ks.length ≤ 3 := by omega
   have HN := h_ hne
   clear hne
   go_enter Tryz.func55, Tryz.ntmps55
   go_wp2
   go_loopw [14] (fun i wr => ∃ j : Nat, i = .int .i64 j ∧ j ≤ ks.length ∧ Below w.heap.size w wr ∧ fitK (ks.drop j) (ss.drop j) = fitK ks ss) (fun i wr => ks.length - (intOf i).toNat)
   case atStart => exact ⟨0, rfl, Nat.zero_le _, brf _, rfl⟩
   case round =>
     obtain ⟨j, rfl, hj, hb, hall⟩ := hrel
     have HB := h_ hb
     have HA := h_ hall
     by_cases hjn : j < ks.length
     · have hjs : j < ss.length := by have := u_ HN; omega
       have hx : ks[j]? = some ks[j] := List.getElem?_eq_getElem hjn
       have hdr := List.drop_eq_getElem_cons hjn
       have hy : ss[j]? = some ss[j] := List.getElem?_eq_getElem hjs
       have hds := List.drop_eq_getElem_cons hjs
       have hmem := List.getElem_mem hjs
       generalize ks[j] = x at hx hdr
       generalize ss[j] = s at hy hds hmem
       rcases RdK_cases (u_ HR) with ⟨h0, _⟩ | ⟨b, o, c', vs, hvv, hn, hcs⟩
       · rw [h0] at hjn; simp at hjn
       obtain ⟨k1, k2, k3, hts, hk⟩ := hcs j x hx
       have k1' := c_ hb k1
       have k2' := c_ hb k2
       have k3' := c_ hb k3
       have s1' := c_ hb (u_ HS j s hy)
       obtain ⟨ha0, hc0⟩ : a0 = some ⟨b, o, none⟩ ∧ c0 = c' := by injection hvv with h1 h2 h3; exact ⟨h1, h3⟩
       subst ha0 hc0
       obtain ⟨a', c'', hv'⟩ := RdK_slice hk
       rw [hv'] at k3'
       have HA2 : Hid ((hasB s x.kind && fitK (ks.drop (j + 1)) (ss.drop (j + 1))) = fitK ks ss) := h_ (by rw [← u_ HA, hdr, hds]; rfl)
       have HX := h_ (fun w' => u_ HH s hmem x.kind w')
       have s2' := c_ (bal (brf wr) (Obj.cells #[Value.int IntKind.i64 x.kind, Value.string x.text, Value.slice a' x.kids.length c''] 30)) s1'
       have y1' : (wr.alloc (Obj.cells #[Value.int IntKind.i64 x.kind, Value.string x.text, Value.slice a' x.kids.length c''] 30)).cell? ⟨wr.heap.size, 0, none⟩ = some (.int .i64 x.kind) := by rw [World.cell?_alloc_new]; rfl
       clear hb k1 k2 k3 hk hcs hvv hall HA hds hdr
       cases hok : hasB s x.kind with
       | true =>
         rw [hok] at HX HA2
         rw [Bool.true_and] at HA2
         clear hok
         generalize x.kind = yk at *
         generalize x.text = yt at *
         go_wp2
         go_region_held3 (fun w' => w'.cell? ⟨bs, os + j, none⟩ = some (.int .u64 (s : Int)) ∧ w'.cell? ⟨wr.heap.size, 0, none⟩ = some (.int .i64 yk) ∧ Below w.heap.size w w')
           (first | (exact ⟨s2', y1', bdr (bal (u_ HB) _)⟩) | assumption)
           (first | (go_at_call 25; refine (u_ HX _).mono ?_; rintro e v1 ⟨rfl, rfl⟩))
         all_goals
           go_wp2
           exact ⟨⟨j + 1, by go_num, by omega, bdr (bal (u_ HB) _), u_ HA2⟩, by simp [intOf]; omega⟩
       | false =>
         rw [hok] at HX HA2
         rw [Bool.false_and] at HA2
         clear hok
         generalize x.kind = yk at *
         generalize x.text = yt at *
         go_wp2
         go_region_held3 (fun w' => w'.cell? ⟨bs, os + j, none⟩ = some (.int .u64 (s : Int)) ∧ w'.cell? ⟨wr.heap.size, 0, none⟩ = some (.int .i64 yk) ∧ Below w.heap.size w w')
           (first | (exact ⟨s2', y1', bdr (bal (u_ HB) _)⟩) | assumption)
           (first | (go_at_call 25; refine (u_ HX _).mono ?_; rintro e v1 ⟨rfl, rfl⟩))
         all_goals
           go_wp2
           exact bodyPost_ret (v := .bool false) (by simp [results, Tryz.results55, go_sem]) rfl ⟨by rw [← u_ HA2], bdr (bal (u_ HB) _)⟩
     · rw [List.drop_of_length_le (l := ks) (by omega), List.drop_of_length_le (l := ss) (by have := u_ HN; omega)] at HA
       clear hb hall
       go_wp2
       exact bodyPost_ret (v := .bool true) (by simp [results, Tryz.results55, go_sem]) rfl ⟨by rw [← u_ HA]; rfl, u_ HB⟩
 · rw [fitK_len _ _ hne]
   have q1 : ((ks.length : Int) != (ss.length : Int)) = true := by rw [bne, beq_eq_false_iff_ne.2 (by omega)]; rfl
   go_enter Tryz.func55, Tryz.ntmps55
   go_wp2
   go_ret
   exact ⟨rfl, brf _⟩
set_option maxHeartbeats 2000000
theorem ipNode26 (n : Nd) (E : List Tok → List Tok) (b26 : hasB 8388096 n.kind = true) (hT : IpT 26 n E) (hEE : ∀ T, T ++ tk n = E T) : IpC n := by
 intro v W0 w pb T ov ht hfm hr hb hp hpi hz
 obtain ⟨a', c', hv⟩ := RdK_slice hr
 subst hv
 have y0 : (w.alloc (.cells #[.int .i64 n.kind, .string n.text, .slice a' n.kids.length c'] 30)).cell? ⟨w.heap.size, 0, none⟩ = some (.int .i64 n.kind) := by rw [World.cell?_alloc_new]; rfl
 have y1 : (w.alloc (.cells #[.int .i64 n.kind, .string n.text, .slice a' n.kids.length c'] 30)).cell? ⟨w.heap.size, 1, none⟩ = some (.string n.text) := by rw [World.cell?_alloc_new]; rfl
 have y2 : (w.alloc (.cells #[.int .i64 n.kind, .string n.text, .slice a' n.kids.length c'] 30)).cell? ⟨w.heap.size, 2, none⟩ = some (.slice a' n.kids.length c') := by rw [World.cell?_alloc_new]; rfl
 have CP := h_ (hT _ W0 (w.alloc (.cells #[.int .i64 n.kind, .string n.text, .slice a' n.kids.length c'] 30)) pb T (T ++ tk n) ov hr (hb.alloc hb.size _) hp (hpi.alloc _) (hEE T) hz)
 have PR := h_ (Pr.ofAlloc pb ov w (.cells #[.int .i64 n.kind, .string n.text, .slice a' n.kids.length c'] 30))
 have HA26 := h_ (fun W => iKHas 8388096 n.kind W (by decide))
 rw [b26] at HA26
 clear hr hb hpi hz hEE hT b26 hfm ht
 unfold ndV at CP ⊢
 generalize T ++ tk n = ET at *
 generalize n.kind = nk at *
 go_enter Tryz.func14, Tryz.ntmps14
 go_wp2_with (first
   | (go_at_call 26; refine (u_ CP).mono ?_; rintro e w1 ⟨rfl, ov1, hpi1, hpr1⟩; have HF := h_ hpi1; have HG := h_ hpr1; clear hpi1 hpr1)
   | (go_at_call_of 25 (Value.int IntKind.u64 8388096); refine (u_ HA26 _).mono ?_; rintro e wx ⟨rfl, rfl⟩))
 exact bodyPost_ret (v := .pointer (some ⟨pb, 0, none⟩)) (by simp [results, Tryz.results14, go_sem]) rfl ⟨rfl, ov1, u_ HF, (u_ PR).trans (u_ HG)⟩
theorem ipNode27 (n : Nd) (E : List Tok → List Tok) (b26 : hasB 8388096 n.kind = false) (b27 : hasB 62142808064 n.kind = true) (hT : IpT 27 n E) (hEE : ∀ T, T ++ tk n = E T) : IpC n := by
 intro v W0 w pb T ov ht hfm hr hb hp hpi hz
 obtain ⟨a', c', hv⟩ := RdK_slice hr
 subst hv
 have y0 : (w.alloc (.cells #[.int .i64 n.kind, .string n.text, .slice a' n.kids.length c'] 30)).cell? ⟨w.heap.size, 0, none⟩ = some (.int .i64 n.kind) := by rw [World.cell?_alloc_new]; rfl
 have y1 : (w.alloc (.cells #[.int .i64 n.kind, .string n.text, .slice a' n.kids.length c'] 30)).cell? ⟨w.heap.size, 1, none⟩ = some (.string n.text) := by rw [World.cell?_alloc_new]; rfl
 have y2 : (w.alloc (.cells #[.int .i64 n.kind, .string n.text, .slice a' n.kids.length c'] 30)).cell? ⟨w.heap.size, 2, none⟩ = some (.slice a' n.kids.length c') := by rw [World.cell?_alloc_new]; rfl
 have CP := h_ (hT _ W0 (w.alloc (.cells #[.int .i64 n.kind, .string n.text, .slice a' n.kids.length c'] 30)) pb T (T ++ tk n) ov hr (hb.alloc hb.size _) hp (hpi.alloc _) (hEE T) hz)
 have PR := h_ (Pr.ofAlloc pb ov w (.cells #[.int .i64 n.kind, .string n.text, .slice a' n.kids.length c'] 30))
 have HA26 := h_ (fun W => iKHas 8388096 n.kind W (by decide))
 rw [b26] at HA26
 have HA27 := h_ (fun W => iKHas 62142808064 n.kind W (by decide))
 rw [b27] at HA27
 clear hr hb hpi hz hEE hT b26 b27 hfm ht
 unfold ndV at CP ⊢
 generalize T ++ tk n = ET at *
 generalize n.kind = nk at *
 go_enter Tryz.func14, Tryz.ntmps14
 go_wp2_with (first
   | (go_at_call 27; refine (u_ CP).mono ?_; rintro e w1 ⟨rfl, ov1, hpi1, hpr1⟩; have HF := h_ hpi1; have HG := h_ hpr1; clear hpi1 hpr1)
   | (go_at_call_of 25 (Value.int IntKind.u64 8388096); refine (u_ HA26 _).mono ?_; rintro e wx ⟨rfl, rfl⟩)
   | (go_at_call_of 25 (Value.int IntKind.u64 62142808064); refine (u_ HA27 _).mono ?_; rintro e wx ⟨rfl, rfl⟩))
 exact bodyPost_ret (v := .pointer (some ⟨pb, 0, none⟩)) (by simp [results, Tryz.results14, go_sem]) rfl ⟨rfl, ov1, u_ HF, (u_ PR).trans (u_ HG)⟩
theorem ipNode28 (n : Nd) (E : List Tok → List Tok) (b26 : hasB 8388096 n.kind = false) (b27 : hasB 62142808064 n.kind = false) (b28 : hasB 281406257233920 n.kind = true) (hT : IpT 28 n E) (hEE : ∀ T, T ++ tk n = E T) : IpC n := by
 intro v W0 w pb T ov ht hfm hr hb hp hpi hz
 obtain ⟨a', c', hv⟩ := RdK_slice hr
 subst hv
 have y0 : (w.alloc (.cells #[.int .i64 n.kind, .string n.text, .slice a' n.kids.length c'] 30)).cell? ⟨w.heap.size, 0, none⟩ = some (.int .i64 n.kind) := by rw [World.cell?_alloc_new]; rfl
 have y1 : (w.alloc (.cells #[.int .i64 n.kind, .string n.text, .slice a' n.kids.length c'] 30)).cell? ⟨w.heap.size, 1, none⟩ = some (.string n.text) := by rw [World.cell?_alloc_new]; rfl
 have y2 : (w.alloc (.cells #[.int .i64 n.kind, .string n.text, .slice a' n.kids.length c'] 30)).cell? ⟨w.heap.size, 2, none⟩ = some (.slice a' n.kids.length c') := by rw [World.cell?_alloc_new]; rfl
 have CP := h_ (hT _ W0 (w.alloc (.cells #[.int .i64 n.kind, .string n.text, .slice a' n.kids.length c'] 30)) pb T (T ++ tk n) ov hr (hb.alloc hb.size _) hp (hpi.alloc _) (hEE T) hz)
 have PR := h_ (Pr.ofAlloc pb ov w (.cells #[.int .i64 n.kind, .string n.text, .slice a' n.kids.length c'] 30))
 have HA26 := h_ (fun W => iKHas 8388096 n.kind W (by decide))
 rw [b26] at HA26
 have HA27 := h_ (fun W => iKHas 62142808064 n.kind W (by decide))
 rw [b27] at HA27
 have HA28 := h_ (fun W => iKHas 281406257233920 n.kind W (by decide))
 rw [b28] at HA28
 clear hr hb hpi hz hEE hT b26 b27 b28 hfm ht
 unfold ndV at CP ⊢
 generalize T ++ tk n = ET at *
 generalize n.kind = nk at *
 go_enter Tryz.func14, Tryz.ntmps14
 go_wp2_with (first
   | (go_at_call 28; refine (u_ CP).mono ?_; rintro e w1 ⟨rfl, ov1, hpi1, hpr1⟩; have HF := h_ hpi1; have HG := h_ hpr1; clear hpi1 hpr1)
   | (go_at_call_of 25 (Value.int IntKind.u64 8388096); refine (u_ HA26 _).mono ?_; rintro e wx ⟨rfl, rfl⟩)
   | (go_at_call_of 25 (Value.int IntKind.u64 62142808064); refine (u_ HA27 _).mono ?_; rintro e wx ⟨rfl, rfl⟩)
   | (go_at_call_of 25 (Value.int IntKind.u64 281406257233920); refine (u_ HA28 _).mono ?_; rintro e wx ⟨rfl, rfl⟩))
 exact bodyPost_ret (v := .pointer (some ⟨pb, 0, none⟩)) (by simp [results, Tryz.results14, go_sem]) rfl ⟨rfl, ov1, u_ HF, (u_ PR).trans (u_ HG)⟩
theorem ipNode29 (n : Nd) (E : List Tok → List Tok) (b26 : hasB 8388096 n.kind = false) (b27 : hasB 62142808064 n.kind = false) (b28 : hasB 281406257233920 n.kind = false) (hT : IpT 29 n E) (hEE : ∀ T, T ++ tk n = E T) : IpC n := by
 intro v W0 w pb T ov ht hfm hr hb hp hpi hz
 obtain ⟨a', c', hv⟩ := RdK_slice hr
 subst hv
 have y0 : (w.alloc (.cells #[.int .i64 n.kind, .string n.text, .slice a' n.kids.length c'] 30)).cell? ⟨w.heap.size, 0, none⟩ = some (.int .i64 n.kind) := by rw [World.cell?_alloc_new]; rfl
 have y1 : (w.alloc (.cells #[.int .i64 n.kind, .string n.text, .slice a' n.kids.length c'] 30)).cell? ⟨w.heap.size, 1, none⟩ = some (.string n.text) := by rw [World.cell?_alloc_new]; rfl
 have y2 : (w.alloc (.cells #[.int .i64 n.kind, .string n.text, .slice a' n.kids.length c'] 30)).cell? ⟨w.heap.size, 2, none⟩ = some (.slice a' n.kids.length c') := by rw [World.cell?_alloc_new]; rfl
 have CP := h_ (hT _ W0 (w.alloc (.cells #[.int .i64 n.kind, .string n.text, .slice a' n.kids.length c'] 30)) pb T (T ++ tk n) ov hr (hb.alloc hb.size _) hp (hpi.alloc _) (hEE T) hz)
 have PR := h_ (Pr.ofAlloc pb ov w (.cells #[.int .i64 n.kind, .string n.text, .slice a' n.kids.length c'] 30))
 have HA26 := h_ (fun W => iKHas 8388096 n.kind W (by decide))
 rw [b26] at HA26
 have HA27 := h_ (fun W => iKHas 62142808064 n.kind W (by decide))
 rw [b27] at HA27
 have HA28 := h_ (fun W => iKHas 281406257233920 n.kind W (by decide))
 rw [b28] at HA28
 clear hr hb hpi hz hEE hT b26 b27 b28 hfm ht
 unfold ndV at CP ⊢
 generalize T ++ tk n = ET at *
 generalize n.kind = nk at *
 go_enter Tryz.func14, Tryz.ntmps14
 go_wp2_with (first
   | (go_at_call 29; refine (u_ CP).mono ?_; rintro e w1 ⟨rfl, ov1, hpi1, hpr1⟩; have HF := h_ hpi1; have HG := h_ hpr1; clear hpi1 hpr1)
   | (go_at_call_of 25 (Value.int IntKind.u64 8388096); refine (u_ HA26 _).mono ?_; rintro e wx ⟨rfl, rfl⟩)
   | (go_at_call_of 25 (Value.int IntKind.u64 62142808064); refine (u_ HA27 _).mono ?_; rintro e wx ⟨rfl, rfl⟩)
   | (go_at_call_of 25 (Value.int IntKind.u64 281406257233920); refine (u_ HA28 _).mono ?_; rintro e wx ⟨rfl, rfl⟩))
 exact bodyPost_ret (v := .pointer (some ⟨pb, 0, none⟩)) (by simp [results, Tryz.results14, go_sem]) rfl ⟨rfl, ov1, u_ HF, (u_ PR).trans (u_ HG)⟩
theorem sx_new {W0 : World} {pb kN : Nat} {n : Nd} {nv : Value} {w0 : World} {ov0 : Value} {U : List Tok} {W : World} (hp : W0.heap.size ≤ pb) (h : Sx W0 pb kN n nv w0 ov0 U W) (ts : List Tok) (N : Nat) (hN : ts.length = N) (cs : Array Value) (hcs : cs = (ts.map tv).toArray) (ET : List Tok) (hE : ET = U ++ ts) (hz : sizeT ET ≤ 1099511627776) (M c : Nat) (hM : M = W.heap.size) :
   Calls Tryz.prog 39 #[.pointer (some ⟨pb, 0, none⟩), .slice (some ⟨M, 0, none⟩) N c] (W.alloc (.cells cs 9)) fun e w' => e = .returned (.pointer (some ⟨pb, 0, none⟩)) ∧ ∃ ov', Pi pb ET ov' w' ∧ Pr pb ov0 ov' w0 w' := by
 subst hE
 exact (sx_putN hp ts N hN hz M c _ (h.alloc _) (Ax.new h.px hM hcs)).mono fun e w' ⟨he, hs, _⟩ => ⟨he, hs.fin⟩
theorem ip36 (n : Nd) (hk : n.kind = 36) : IpT 28 n (fun T => T ++ [L n.text]) := by
 intro v W0 w pb T ET ov hr hb hp hpi hE hz
 dsimp only at hE
 obtain ⟨a', c', hv⟩ := RdK_slice hr
 subst hv
 have HS : Sx W0 pb w.heap.size n (.slice a' n.kids.length c') w ov T (w.alloc (.cells #[.int .i64 n.kind, .string n.text, .slice a' n.kids.length c'] 30)) := ⟨ov, Sti.start hb hpi 30⟩
 have y0 : (w.alloc (.cells #[.int .i64 n.kind, .string n.text, .slice a' n.kids.length c'] 30)).cell? ⟨w.heap.size, 0, none⟩ = some (.int .i64 n.kind) := by rw [World.cell?_alloc_new]; rfl
 have y1 : (w.alloc (.cells #[.int .i64 n.kind, .string n.text, .slice a' n.kids.length c'] 30)).cell? ⟨w.heap.size, 1, none⟩ = some (.string n.text) := by rw [World.cell?_alloc_new]; rfl
 have CP := h_ (fun (M c : Nat) (hM : M = w.heap.size + 1) => sx_new hp HS [L n.text] 1 rfl #[.string n.text] (by show _ = #[Value.string (S (L n.text))]; rw [S_L]) ET hE hz M c (by rw [hM]; simp))
 clear hr hb hpi hE hz HS
 unfold ndV
 rw [hk] at y0 y1 CP ⊢
 go_enter Tryz.func28, Tryz.ntmps28
 go_wp2_with (go_at_call 39; refine (u_ CP _ _ (by simp)).mono ?_; rintro e w1 ⟨rfl, hfin⟩; have HF := h_ hfin; clear hfin)
 exact e28 rfl ⟨rfl, u_ HF⟩
theorem ip37 (n : Nd) (hk : n.kind = 37) : IpT 28 n (fun T => T ++ [L n.text]) := by
 intro v W0 w pb T ET ov hr hb hp hpi hE hz
 dsimp only at hE
 obtain ⟨a', c', hv⟩ := RdK_slice hr
 subst hv
 have HS : Sx W0 pb w.heap.size n (.slice a' n.kids.length c') w ov T (w.alloc (.cells #[.int .i64 n.kind, .string n.text, .slice a' n.kids.length c'] 30)) := ⟨ov, Sti.start hb hpi 30⟩
 have y0 : (w.alloc (.cells #[.int .i64 n.kind, .string n.text, .slice a' n.kids.length c'] 30)).cell? ⟨w.heap.size, 0, none⟩ = some (.int .i64 n.kind) := by rw [World.cell?_alloc_new]; rfl
 have y1 : (w.alloc (.cells #[.int .i64 n.kind, .string n.text, .slice a' n.kids.length c'] 30)).cell? ⟨w.heap.size, 1, none⟩ = some (.string n.text) := by rw [World.cell?_alloc_new]; rfl
 have CP := h_ (fun (M c : Nat) (hM : M = w.heap.size + 1) => sx_new hp HS [L n.text] 1 rfl #[.string n.text] (by show _ = #[Value.string (S (L n.text))]; rw [S_L]) ET hE hz M c (by rw [hM]; simp))
 clear hr hb hpi hE hz HS
 unfold ndV
 rw [hk] at y0 y1 CP ⊢
 go_enter Tryz.func28, Tryz.ntmps28
 go_wp2_with (go_at_call 39; refine (u_ CP _ _ (by simp)).mono ?_; rintro e w1 ⟨rfl, hfin⟩; have HF := h_ hfin; clear hfin)
 exact e28 rfl ⟨rfl, u_ HF⟩
theorem ip35 (n : Nd) (hk : n.kind = 35) : IpT 27 n (fun T => T ++ [[115, 116, 111, 112], [59]]) := by
 intro v W0 w pb T ET ov hr hb hp hpi hE hz
 dsimp only at hE
 obtain ⟨a', c', hv⟩ := RdK_slice hr
 subst hv
 have HS : Sx W0 pb w.heap.size n (.slice a' n.kids.length c') w ov T (w.alloc (.cells #[.int .i64 n.kind, .string n.text, .slice a' n.kids.length c'] 30)) := ⟨ov, Sti.start hb hpi 30⟩
 have y0 : (w.alloc (.cells #[.int .i64 n.kind, .string n.text, .slice a' n.kids.length c'] 30)).cell? ⟨w.heap.size, 0, none⟩ = some (.int .i64 n.kind) := by rw [World.cell?_alloc_new]; rfl
 have CP := h_ (fun (M c : Nat) (hM : M = w.heap.size + 1) => sx_new hp HS [[115, 116, 111, 112], [59]] 2 rfl #[.string ⟨#[115, 116, 111, 112]⟩, .string ⟨#[59]⟩] rfl ET hE hz M c (by rw [hM]; simp))
 clear hr hb hpi hE hz HS
 unfold ndV
 rw [hk] at y0 CP ⊢
 go_enter Tryz.func27, Tryz.ntmps27
 go_wp2_with (go_at_call 39; refine (u_ CP _ _ (by simp)).mono ?_; rintro e w1 ⟨rfl, hfin⟩; have HF := h_ hfin; clear hfin)
 exact e27 rfl ⟨rfl, u_ HF⟩
theorem ip1 (n : Nd) (hk : n.kind = 1) (ih : ∀ x ∈ n.kids, IpC x) (hf : ∀ x ∈ n.kids, fm x = true) : IpT 29 n (fun T => T ++ joinT [] (n.kids.map tk)) := by
 intro v W0 w pb T ET ov hr hb hp hpi hE hz
 dsimp only at hE
 obtain ⟨a', c', hv⟩ := RdK_slice hr
 subst hv
 have HS : Sx W0 pb w.heap.size n (.slice a' n.kids.length c') w ov T (w.alloc (.cells #[.int .i64 n.kind, .string n.text, .slice a' n.kids.length c'] 30)) := ⟨ov, Sti.start hb hpi 30⟩
 have y0 : (w.alloc (.cells #[.int .i64 n.kind, .string n.text, .slice a' n.kids.length c'] 30)).cell? ⟨w.heap.size, 0, none⟩ = some (.int .i64 n.kind) := by rw [World.cell?_alloc_new]; rfl
 have y2 : (w.alloc (.cells #[.int .i64 n.kind, .string n.text, .slice a' n.kids.length c'] 30)).cell? ⟨w.heap.size, 2, none⟩ = some (.slice a' n.kids.length c') := by rw [World.cell?_alloc_new]; rfl
 have CP := h_ (sx_nodes hp ih hf hr (hE ▸ hz) _ HS)
 rw [← hE] at CP
 clear hr hb hpi hE hz HS ih hf
 unfold ndV
 rw [hk] at y0 y2 CP ⊢
 go_enter Tryz.func29, Tryz.ntmps29
 go_wp2_with (go_at_call 43; refine (u_ CP).mono ?_; rintro e w1 ⟨rfl, hs1, _⟩; have HF := h_ hs1.fin; clear hs1)
 exact e29 rfl ⟨rfl, u_ HF⟩
theorem ip3b (n : Nd) (hk : n.kind = 3) (hne : n.kids ≠ []) (ih : ∀ x ∈ n.kids, IpC x) (hf : ∀ x ∈ n.kids, fm x = true) : IpT 29 n (fun T => T ++ [[35], [40]] ++ joinT [44] (n.kids.map tk) ++ [[41]]) := by
 intro v W0 w pb T ET ov hr hb hp hpi hE hz
 dsimp only at hE
 obtain ⟨a', c', hv⟩ := RdK_slice hr
 subst hv
 have z3 := hz
 have zL := hE ▸ hz
 have z2 := pre_size (hE ▸ z3)
 have z1 := pre_size z2
 have HS := Sx.start (n := n) (nv := .slice a' n.kids.length c') hb hpi
 have y0 := kind0 w n (.slice a' n.kids.length c')
 have hpos : (0 : Int) < (n.kids.length : Int) := by have := List.length_pos_iff.2 hne; omega
 have hlen := len_okP hr
 have y2 : (w.alloc (.cells #[.int .i64 n.kind, .string n.text, .slice a' n.kids.length c'] 30)).cell? ⟨w.heap.size, 2, none⟩ = some (.slice a' n.kids.length c') := by rw [World.cell?_alloc_new]; rfl
 clear hb hpi hz
 have HH := h_ (And.intro hr (And.intro HS (And.intro ih (And.intro hf (And.intro hE (And.intro z1 (And.intro z2 (And.intro z3 (zL)))))))))
 clear hr HS ih hf hE z1 z2 z3 zL
 unfold ndV
 rw [hk] at y0 y2 HH ⊢
 go_enter Tryz.func29, Tryz.ntmps29
 go_wp2
 obtain ⟨hr, HS, ih, hf, hE, z1, z2, z3, zL⟩ := u_ HH
 refine region_prints [aP pb, .arr [[35], [40]], aP pb, aF w 2, aS n a' c', aP pb, .arr [[41]], aP pb] [2, 5, 7] [T, T ++ [[35], [40]], T ++ [[35], [40]] ++ joinT [44] (n.kids.map tk), ET] 161 rfl (by kernel_rfl) (by kernel_rfl) HS ?_ ?_
 · simp only [PlanSteps]
   exact ⟨ps_move rfl rfl (Kn.old rfl rfl),
     ps_arr2 rfl rfl (Kn.const _) (Kn.const _),
     ps_put 0 rfl (by decide) rfl rfl (Kn.tmp 0 rfl rfl rfl) (KnA.tmp 1 rfl rfl rfl) hp rfl z1,
     ps_field rfl rfl (by decide) (Kn.old rfl rfl),
     ps_load28 rfl rfl (Kn.tmp 3 rfl rfl rfl) (fun w h => h.c2),
     ps_part 1 rfl (by decide) rfl rfl enters41 rfl (Kn.tmp 2 rfl rfl rfl) (Kn.tmp 4 rfl rfl rfl) (fun w h => sx_commas hp ih hf hr z2 w h),
     ps_arr1 rfl rfl (Kn.const _),
     ps_put 2 rfl (by decide) rfl rfl (Kn.tmp 5 rfl rfl rfl) (KnA.tmp 6 rfl rfl rfl) hp hE z3, trivial⟩
 · intro a w' _ hd hs
   have HF := h_ hs.fin
   clear hs HS y0 hE
   go_wp2
   exact e29 hd ⟨rfl, u_ HF⟩
theorem ip3a (n : Nd) (hk : n.kind = 3) (hks : n.kids = []) : IpT 29 n (fun T => T) := by
 intro v W0 w pb T ET ov hr hb hp hpi hE hz
 dsimp only at hE
 subst hE
 obtain ⟨a', c', hv⟩ := RdK_slice hr
 subst hv
 have HS : Sx W0 pb w.heap.size n (.slice a' n.kids.length c') w ov ET (w.alloc (.cells #[.int .i64 n.kind, .string n.text, .slice a' n.kids.length c'] 30)) := ⟨ov, Sti.start hb hpi 30⟩
 have y0 : (w.alloc (.cells #[.int .i64 n.kind, .string n.text, .slice a' n.kids.length c'] 30)).cell? ⟨w.heap.size, 0, none⟩ = some (.int .i64 n.kind) := by rw [World.cell?_alloc_new]; rfl
 have y2 : (w.alloc (.cells #[.int .i64 n.kind, .string n.text, .slice a' n.kids.length c'] 30)).cell? ⟨w.heap.size, 2, none⟩ = some (.slice a' n.kids.length c') := by rw [World.cell?_alloc_new]; rfl
 have HF := h_ HS.fin
 clear hr hb hpi hz HS
 unfold ndV
 rw [hk, hks] at y0 y2 HF ⊢
 simp only [List.length_nil] at y0 y2 HF ⊢
 go_enter Tryz.func29, Tryz.ntmps29
 go_wp2
 exact e29 rfl ⟨rfl, u_ HF⟩
theorem Sti.box {W0 : World} {pb : Nat} {n : Nd} {nv : Value} {T : List Tok} {ov ovj : Value} {w wr : World} (hb : Below W0.heap.size W0 wr) (hpi : Pi pb T ovj wr) (hpr : Pr pb ov ovj w wr) (t : TypeId) : Sti W0 pb wr.heap.size n nv w ov T ovj (wr.alloc (.cells #[.int .i64 n.kind, .string n.text, nv] t)) :=
 ⟨hb.alloc hb.size _, hpi.alloc _, by rw [World.cell?_alloc_new]; rfl, by rw [World.cell?_alloc_new]; rfl, by rw [World.cell?_alloc_new]; rfl, by have := hpi.lt; omega, hpi.new, hpr.alloc _⟩
theorem act_lit (a : Act) (n : Nat) (h : a.tmps.size = n) : a = ⟨((List.range n).map fun i => a.eval (.tmp i)).toArray, a.defers⟩ := by
 obtain ⟨tm, df⟩ := a
 congr 1
 apply Array.ext
 · simp at h ⊢; exact h
 · intro i h1 h2
   simp [Act.eval, Array.getD, h1]
theorem act_lit31 (a : Act) (h : a.tmps.size = 31) : a = ⟨#[a.eval (.tmp 0), a.eval (.tmp 1), a.eval (.tmp 2), a.eval (.tmp 3), a.eval (.tmp 4), a.eval (.tmp 5), a.eval (.tmp 6), a.eval (.tmp 7), a.eval (.tmp 8), a.eval (.tmp 9), a.eval (.tmp 10), a.eval (.tmp 11), a.eval (.tmp 12), a.eval (.tmp 13), a.eval (.tmp 14), a.eval (.tmp 15), a.eval (.tmp 16), a.eval (.tmp 17), a.eval (.tmp 18), a.eval (.tmp 19), a.eval (.tmp 20), a.eval (.tmp 21), a.eval (.tmp 22), a.eval (.tmp 23), a.eval (.tmp 24), a.eval (.tmp 25), a.eval (.tmp 26), a.eval (.tmp 27), a.eval (.tmp 28), a.eval (.tmp 29), a.eval (.tmp 30)], a.defers⟩ := act_lit a 31 h
def IPort (p q : Nd) : Prop := p.kids = [q] ∧ (tk p).drop 1 = tk q ++ [L p.text] ∧ IpC q ∧ fm q = true
set_option maxHeartbeats 2000000 in
theorem iPorts (ks : List Nd) (hq : ∀ p ∈ ks, ∃ q, IPort p q) (v : Value) (W0 w : World) (pb : Nat) (T : List Tok) (ov : Value) (hr : RdK W0 ks v) (hb : Below W0.heap.size W0 w) (hp : W0.heap.size ≤ pb) (hpi : Pi pb T ov w) (hz : sizeT (T ++ portsT ks) ≤ 1099511627776) :
   Calls Tryz.prog 42 #[.pointer (some ⟨pb, 0, none⟩), v] w fun e w' => e = .returned (.pointer (some ⟨pb, 0, none⟩)) ∧ ∃ ov', Pi pb (T ++ portsT ks) ov' w' ∧ Pr pb ov ov' w w' := by
 have HQ := h_ hq
 have HR := h_ hr
 have HPI := h_ hpi
 have HB := h_ hb
 have hl := len_okP hr
 obtain ⟨a0, c0, rfl⟩ := RdK_slice hr
 clear hq hr hpi hb
 go_enter Tryz.func42, Tryz.ntmps42
 go_wp2
 go_loopw [9] (fun i wr => ∃ (j : Nat) (ovj : Value), i = .int .i64 j ∧ j ≤ ks.length ∧ Pi pb (T ++ portsT (ks.take j)) ovj wr ∧ Pr pb ov ovj w wr) (fun i wr => ks.length - (intOf i).toNat)
 case atStart => exact ⟨0, ov, rfl, Nat.zero_le _, by have : portsT (ks.take 0) = [] := rfl
                                                      rw [this, List.append_nil]; exact u_ HPI, Pr.refl _ _ _⟩
 case round =>
   obtain ⟨j, ovj, rfl, hj, hpij, hprj⟩ := hrel
   have HPJ := h_ hpij
   have HPRJ := h_ hprj
   by_cases hjn : j < ks.length
   · have hx : ks[j]? = some ks[j] := List.getElem?_eq_getElem hjn
     generalize ks[j] = p at hx
     obtain ⟨q, hpk, htk, iq, qq⟩ := u_ HQ p (List.mem_of_getElem? hx)
     have hnx := portsT_next hx
     rw [htk] at hnx
     have hbr := belowI (u_ HB) hp (u_ HPI) hprj
     have hz2 : sizeT (T ++ portsT (ks.take (j + 1))) ≤ 1099511627776 := by
       have := portsT_take ks (j + 1)
       rw [sizeT_app] at hz ⊢
       omega
     rcases RdK_cases (u_ HR) with ⟨h0, _⟩ | ⟨b, o, c', vs, hvv, hn, hcs⟩
     · rw [h0] at hjn; simp at hjn
     obtain ⟨k1, k2, k3, hts, hk⟩ := hcs j p hx
     obtain ⟨ha0, hc0⟩ : a0 = some ⟨b, o, none⟩ ∧ c0 = c' := by injection hvv with h1 h2 h3; exact ⟨h1, h3⟩
     subst ha0 hc0
     rcases RdK_cases hk with ⟨h0, _⟩ | ⟨b3, o3, c3, vs3, hv3, hn3, hcs3⟩
     · rw [hpk] at h0; cases h0
     rw [hv3] at k3 hk
     have hpl : p.kids.length = 1 := by rw [hpk]; rfl
     rw [hpl] at k3 hk
     obtain ⟨p0, q0, r0, t0, kk0⟩ := hcs3 0 q (by rw [hpk]; rfl)
     obtain ⟨s0, d0, e0⟩ := RdK_slice kk0
     rw [e0] at r0 kk0
     have k1' := c_ hbr k1
     have k2' := c_ hbr k2
     have k3' := c_ hbr k3
     have HS : Sx W0 pb wr.heap.size p (.slice (some ⟨b3, o3, none⟩) 1 c3) w ov (T ++ portsT (ks.take j)) (wr.alloc (.cells #[.int .i64 p.kind, .string p.text, .slice (some ⟨b3, o3, none⟩) 1 c3] 30)) := ⟨ovj, Sti.box hbr hpij hprj 30⟩
     have y0 : (wr.alloc (.cells #[.int .i64 p.kind, .string p.text, .slice (some ⟨b3, o3, none⟩) 1 c3] 30)).cell? ⟨wr.heap.size, 0, none⟩ = some (.int .i64 p.kind) := by rw [World.cell?_alloc_new]; rfl
     replace HS := h_ HS
     replace p0 := h_ p0
     replace q0 := h_ q0
     replace r0 := h_ r0
     replace t0 := h_ t0
     replace kk0 := h_ kk0
     replace hnx := h_ hnx
     replace hz2 := h_ hz2
     replace iq := h_ iq
     replace qq := h_ qq
     clear hpij hprj hbr hcs hvv hk hcs3 htk hn3
     by_cases h0 : 0 < j
     · have h0' : (0 : Int) < (j : Int) := by omega
       have hzc : sizeT (T ++ portsT (ks.take j) ++ [[44]]) ≤ 1099511627776 := by
         have h2 := u_ hnx
         rw [if_pos h0] at h2
         have h3 := u_ hz2
         rw [h2] at h3
         simp only [sizeT_app] at h3 ⊢
         omega
       have CP := h_ (fun (M c : Nat) (hM : M = wr.heap.size + 1) => sx_putN hp [[44]] 1 rfl hzc M c _ ((u_ HS).alloc (.cells #[.string ⟨#[44]⟩] 9)) (Ax.new (cs := #[.string ⟨#[44]⟩]) (u_ HS).px (by rw [hM]; simp) rfl))
       clear hzc
       go_wp2_with (go_at_call 39; refine (u_ CP _ _ (by simp)).mono ?_; rintro e w1 ⟨rfl, hs1, _⟩; have HS1 := h_ hs1; clear hs1)
       replace HS1 := u_ HS1
       replace p0 := u_ p0
       replace q0 := u_ q0
       replace r0 := u_ r0
       replace t0 := u_ t0
       replace kk0 := u_ kk0
       replace hnx := u_ hnx
       replace hz2 := u_ hz2
       replace iq := u_ iq
       replace qq := u_ qq
       rw [if_pos h0] at hnx
       have hE : T ++ portsT (ks.take (j + 1)) = T ++ portsT (ks.take j) ++ [[44]] ++ tk q ++ [L p.text] := by rw [hnx]; simp [List.append_assoc]
       have z2 : sizeT (T ++ portsT (ks.take j) ++ [[44]] ++ tk q ++ [L p.text]) ≤ 1099511627776 := hE ▸ hz2
       have z1 := pre_size z2
       refine region_printsK (W0 := W0) (pb := pb) (kN := wr.heap.size) (n := p) (nv := .slice (some ⟨b3, o3, none⟩) 1 c3) (w0 := w) (ov0 := ov) [.val (.pointer (some ⟨pb, 0, none⟩)), .val (.pointer (some ⟨wr.heap.size, 2, none⟩)), .val (.slice (some ⟨b3, o3, none⟩) 1 c3), .val (.pointer (some ⟨b3, o3 + 0 * 3, none⟩)), .val (.agg #[.int .i64 q.kind, .string q.text, .slice s0 q.kids.length d0]), .val (.pointer (some ⟨pb, 0, none⟩)), .val (.pointer (some ⟨wr.heap.size, 1, none⟩)), .val (.string (S (L p.text))), .arr [L p.text], .val (.pointer (some ⟨pb, 0, none⟩))] [5, 9] [T ++ portsT (ks.take j) ++ [[44]], T ++ portsT (ks.take j) ++ [[44]] ++ tk q, T ++ portsT (ks.take j) ++ [[44]] ++ tk q ++ [L p.text]] 31 rfl (by kernel_rfl) (by kernel_rfl) HS1 ?_ ?_
       · simp only [PlanSteps]
         exact ⟨ps_move rfl rfl (Kn.old (by kernel_rfl) rfl),
           ps_field rfl rfl (by decide) (Kn.old (by kernel_rfl) rfl),
           ps_load28 rfl rfl (Kn.tmp 1 rfl rfl rfl) (fun w h => h.c2),
           ps_index (i := 0) rfl rfl (by decide) (by decide) (Kn.tmp 2 rfl rfl rfl) (Kn.const _),
           ps_load30 rfl rfl (Kn.tmp 3 rfl rfl rfl) (fun w h => h.far p0) (fun w h => h.far q0) (fun w h => h.far r0),
           ps_part 0 rfl (by decide) rfl rfl enters14 rfl (Kn.tmp 0 rfl rfl rfl) (Kn.tmp 4 rfl rfl rfl) (fun w h => sx_node hp iq qq t0 kk0 z1 w h),
           ps_field rfl rfl (by decide) (Kn.old (by kernel_rfl) rfl),
           ps_load9 rfl rfl (Kn.tmp 6 rfl rfl rfl) (fun w h => h.c1),
           ps_arr1 rfl rfl (Kn.tmp 7 rfl rfl rfl),
           ps_put 1 rfl (by decide) rfl rfl (Kn.tmp 5 rfl rfl rfl) (KnA.tmp 8 rfl rfl rfl) hp rfl z2, trivial⟩
       · intro a w' hsz hd hkp hs
         obtain ⟨ov2, hpi2, hpr2⟩ := hs.fin
         have HF := h_ hpi2
         have HG := h_ hpr2
         have HE := h_ hE
         have f0 : a.eval (.tmp 0) = .pointer (some ⟨pb, 0, none⟩) := hkp 0 (by kernel_rfl)
         have f1 : a.eval (.tmp 1) = .slice (some ⟨b, o, none⟩) ks.length c0 := hkp 1 (by kernel_rfl)
         have f2 : a.eval (.tmp 2) = undef := hkp 2 (by kernel_rfl)
         have f3 : a.eval (.tmp 3) = undef := hkp 3 (by kernel_rfl)
         have f4 : a.eval (.tmp 4) = .pointer none := hkp 4 (by kernel_rfl)
         have f7 : a.eval (.tmp 7) = .slice (some ⟨b, o, none⟩) ks.length c0 := hkp 7 (by kernel_rfl)
         have f8 : a.eval (.tmp 8) = .int .i64 ks.length := hkp 8 (by kernel_rfl)
         have f9 : a.eval (.tmp 9) = .int .i64 j := hkp 9 (by kernel_rfl)
         have f30 : a.eval (.tmp 30) = undef := hkp 30 (by kernel_rfl)
         rw [act_lit31 a hsz, hd, f0, f1, f2, f3, f4, f7, f8, f9, f30]
         generalize a.eval (.tmp 5) = g5
         generalize a.eval (.tmp 6) = g6
         generalize a.eval (.tmp 10) = g10
         generalize a.eval (.tmp 11) = g11
         generalize a.eval (.tmp 12) = g12
         generalize a.eval (.tmp 13) = g13
         generalize a.eval (.tmp 14) = g14
         generalize a.eval (.tmp 15) = g15
         generalize a.eval (.tmp 16) = g16
         generalize a.eval (.tmp 17) = g17
         generalize a.eval (.tmp 18) = g18
         generalize a.eval (.tmp 19) = g19
         generalize a.eval (.tmp 20) = g20
         generalize a.eval (.tmp 21) = g21
         generalize a.eval (.tmp 22) = g22
         generalize a.eval (.tmp 23) = g23
         generalize a.eval (.tmp 24) = g24
         generalize a.eval (.tmp 25) = g25
         generalize a.eval (.tmp 26) = g26
         generalize a.eval (.tmp 27) = g27
         generalize a.eval (.tmp 28) = g28
         generalize a.eval (.tmp 29) = g29
         clear hs hkp hd hsz hpi2 hpr2 f0 f1 f2 f3 f4 f7 f8 f9 f30 y0 z1 z2 hE hnx hz2 k1' k2' k3' HS
         go_wp2
         exact ⟨⟨j + 1, ov2, by go_num, by omega, by rw [u_ HE]; exact u_ HF, u_ HG⟩, by simp [intOf]; omega⟩
     · have h0' : ¬ ((0 : Int) < (j : Int)) := by omega
       go_wp2
       replace HS := u_ HS
       replace p0 := u_ p0
       replace q0 := u_ q0
       replace r0 := u_ r0
       replace t0 := u_ t0
       replace kk0 := u_ kk0
       replace hnx := u_ hnx
       replace hz2 := u_ hz2
       replace iq := u_ iq
       replace qq := u_ qq
       rw [if_neg h0, List.nil_append] at hnx
       have hE : T ++ portsT (ks.take (j + 1)) = T ++ portsT (ks.take j) ++ tk q ++ [L p.text] := by rw [hnx]; simp [List.append_assoc]
       have z2 : sizeT (T ++ portsT (ks.take j) ++ tk q ++ [L p.text]) ≤ 1099511627776 := hE ▸ hz2
       have z1 := pre_size z2
       refine region_printsK (W0 := W0) (pb := pb) (kN := wr.heap.size) (n := p) (nv := .slice (some ⟨b3, o3, none⟩) 1 c3) (w0 := w) (ov0 := ov) [.val (.pointer (some ⟨pb, 0, none⟩)), .val (.pointer (some ⟨wr.heap.size, 2, none⟩)), .val (.slice (some ⟨b3, o3, none⟩) 1 c3), .val (.pointer (some ⟨b3, o3 + 0 * 3, none⟩)), .val (.agg #[.int .i64 q.kind, .string q.text, .slice s0 q.kids.length d0]), .val (.pointer (some ⟨pb, 0, none⟩)), .val (.pointer (some ⟨wr.heap.size, 1, none⟩)), .val (.string (S (L p.text))), .arr [L p.text], .val (.pointer (some ⟨pb, 0, none⟩))] [5, 9] [T ++ portsT (ks.take j), T ++ portsT (ks.take j) ++ tk q, T ++ portsT (ks.take j) ++ tk q ++ [L p.text]] 31 rfl (by kernel_rfl) (by kernel_rfl) HS ?_ ?_
       · simp only [PlanSteps]
         exact ⟨ps_move rfl rfl (Kn.old (by kernel_rfl) rfl),
           ps_field rfl rfl (by decide) (Kn.old (by kernel_rfl) rfl),
           ps_load28 rfl rfl (Kn.tmp 1 rfl rfl rfl) (fun w h => h.c2),
           ps_index (i := 0) rfl rfl (by decide) (by decide) (Kn.tmp 2 rfl rfl rfl) (Kn.const _),
           ps_load30 rfl rfl (Kn.tmp 3 rfl rfl rfl) (fun w h => h.far p0) (fun w h => h.far q0) (fun w h => h.far r0),
           ps_part 0 rfl (by decide) rfl rfl enters14 rfl (Kn.tmp 0 rfl rfl rfl) (Kn.tmp 4 rfl rfl rfl) (fun w h => sx_node hp iq qq t0 kk0 z1 w h),
           ps_field rfl rfl (by decide) (Kn.old (by kernel_rfl) rfl),
           ps_load9 rfl rfl (Kn.tmp 6 rfl rfl rfl) (fun w h => h.c1),
           ps_arr1 rfl rfl (Kn.tmp 7 rfl rfl rfl),
           ps_put 1 rfl (by decide) rfl rfl (Kn.tmp 5 rfl rfl rfl) (KnA.tmp 8 rfl rfl rfl) hp rfl z2, trivial⟩
       · intro a w' hsz hd hkp hs
         obtain ⟨ov2, hpi2, hpr2⟩ := hs.fin
         have HF := h_ hpi2
         have HG := h_ hpr2
         have HE := h_ hE
         have f0 : a.eval (.tmp 0) = .pointer (some ⟨pb, 0, none⟩) := hkp 0 (by kernel_rfl)
         have f1 : a.eval (.tmp 1) = .slice (some ⟨b, o, none⟩) ks.length c0 := hkp 1 (by kernel_rfl)
         have f2 : a.eval (.tmp 2) = undef := hkp 2 (by kernel_rfl)
         have f3 : a.eval (.tmp 3) = undef := hkp 3 (by kernel_rfl)
         have f4 : a.eval (.tmp 4) = .pointer none := hkp 4 (by kernel_rfl)
         have f7 : a.eval (.tmp 7) = .slice (some ⟨b, o, none⟩) ks.length c0 := hkp 7 (by kernel_rfl)
         have f8 : a.eval (.tmp 8) = .int .i64 ks.length := hkp 8 (by kernel_rfl)
         have f9 : a.eval (.tmp 9) = .int .i64 j := hkp 9 (by kernel_rfl)
         have f30 : a.eval (.tmp 30) = undef := hkp 30 (by kernel_rfl)
         rw [act_lit31 a hsz, hd, f0, f1, f2, f3, f4, f7, f8, f9, f30]
         generalize a.eval (.tmp 5) = g5
         generalize a.eval (.tmp 6) = g6
         generalize a.eval (.tmp 10) = g10
         generalize a.eval (.tmp 11) = g11
         generalize a.eval (.tmp 12) = g12
         generalize a.eval (.tmp 13) = g13
         generalize a.eval (.tmp 14) = g14
         generalize a.eval (.tmp 15) = g15
         generalize a.eval (.tmp 16) = g16
         generalize a.eval (.tmp 17) = g17
         generalize a.eval (.tmp 18) = g18
         generalize a.eval (.tmp 19) = g19
         generalize a.eval (.tmp 20) = g20
         generalize a.eval (.tmp 21) = g21
         generalize a.eval (.tmp 22) = g22
         generalize a.eval (.tmp 23) = g23
         generalize a.eval (.tmp 24) = g24
         generalize a.eval (.tmp 25) = g25
         generalize a.eval (.tmp 26) = g26
         generalize a.eval (.tmp 27) = g27
         generalize a.eval (.tmp 28) = g28
         generalize a.eval (.tmp 29) = g29
         clear hs hkp hd hsz hpi2 hpr2 f0 f1 f2 f3 f4 f7 f8 f9 f30 y0 z1 z2 hE hnx hz2 k1' k2' k3' HS
         go_wp2
         exact ⟨⟨j + 1, ov2, by go_num, by omega, by rw [u_ HE]; exact u_ HF, u_ HG⟩, by simp [intOf]; omega⟩
   · obtain rfl : j = ks.length := by omega
     rw [List.take_length] at HPJ
     clear hpij hprj
     go_wp2
     exact bodyPost_ret (v := .pointer (some ⟨pb, 0, none⟩)) (by simp [results, Tryz.results42, go_sem]) rfl ⟨rfl, ovj, u_ HPJ, u_ HPRJ⟩
theorem rFieldG (w : World) (b x : Nat) : (Instr.fieldAt 30 (.pointer (some ⟨b, x, none⟩)) 2).run Tryz.prog w = .ok (.pointer (some ⟨b, x + 2, none⟩)) w := by go_simp
section
variable {ops : Array Oper} {Q : Exit → Act → World → Prop} {avs : List AV} {W0 : World} {pb kN : Nat} {n : Nd} {nv : Value} {w0 : World} {ov0 : Value} {cs : List Nat} {Ts : List (List Tok)} {a0 : Act}
theorem ps_fieldG {k : Nat} {d : Option Tmp} {x : Operand} {ty : TypeId} {pos : String} {af : Array Edge} {b y : Nat} (hk : cs.contains k = false) (hx : avs[k]? = some (.val (.pointer (some ⟨b, y + 2, none⟩)))) (h : Kn ops avs W0 pb kN n nv w0 ov0 cs Ts a0 af x (.pointer (some ⟨b, y, none⟩))) :
   PlanStep Tryz.prog ops Q (GG pb avs) (JJ W0 pb kN n nv w0 ov0 cs Ts) a0 k ⟨d, .fieldAddr 30 x 2, ty, pos, af, none⟩ :=
 ps_val hk hx fun l a w hp ha => by
   show ((do pure (.value (← Instr.fieldAt 30 (a.eval x) 2)) : Sem Next)).run Tryz.prog w = _
   rw [h l a w hp ha]; simp [rFieldG w b y]
theorem sx_ports {ks : List Nd} (hp : W0.heap.size ≤ pb) (hq : ∀ p ∈ ks, ∃ q, IPort p q) {v : Value} (hr : RdK W0 ks v) {U : List Tok} (hz : sizeT (U ++ portsT ks) ≤ 1099511627776) (W : World) (h : Sx W0 pb kN n nv w0 ov0 U W) :
   Calls Tryz.prog 42 #[.pointer (some ⟨pb, 0, none⟩), v] W fun e w' => e = .returned (.pointer (some ⟨pb, 0, none⟩)) ∧ Sx W0 pb kN n nv w0 ov0 (U ++ portsT ks) w' ∧ Nx pb W w' :=
 sx_of hp (fun ov hb hpi => iPorts ks hq v W0 W pb U ov hr hb hp hpi hz) h
end
theorem iTa (n : Nd) (hk : n.kind = 8) (hks : n.kids = []) (hA : L n.text = []) : IpT 44 n (fun T => T) := by
 intro v W0 w pb T ET ov hr hb hp hpi hE hz
 dsimp only at hE
 obtain ⟨a', c', hv⟩ := RdK_slice hr
 subst hv
 have HS : Sx W0 pb w.heap.size n (.slice a' n.kids.length c') w ov T (w.alloc (.cells #[.int .i64 n.kind, .string n.text, .slice a' n.kids.length c'] 30)) := ⟨ov, Sti.start hb hpi 30⟩
 have y1 : (w.alloc (.cells #[.int .i64 n.kind, .string n.text, .slice a' n.kids.length c'] 30)).cell? ⟨w.heap.size, 1, none⟩ = some (.string n.text) := by rw [World.cell?_alloc_new]; rfl
 have y2 : (w.alloc (.cells #[.int .i64 n.kind, .string n.text, .slice a' n.kids.length c'] 30)).cell? ⟨w.heap.size, 2, none⟩ = some (.slice a' n.kids.length c') := by rw [World.cell?_alloc_new]; rfl
 subst hE
 have htx : n.text.toList.isEmpty = true := by rw [toLL, hA]; rfl
 have HF := h_ HS.fin
 clear hr hb hpi hz HS hA
 unfold ndV
 rw [hk, hks] at y1 y2 HF ⊢
 simp only [List.length_nil] at y1 y2 HF ⊢
 go_enter Tryz.func44, Tryz.ntmps44
 go_wp2
 exact e44 rfl ⟨rfl, u_ HF⟩
theorem iTb (n : Nd) (x0 : Nd) (hk : n.kind = 8) (hA : L n.text = []) (ih : ∀ x ∈ n.kids, IpC x) (hf : ∀ x ∈ n.kids, fm x = true) (h0 : n.kids[0]? = some x0) : IpT 44 n (fun T => T ++ [[91]] ++ tk x0 ++ [[93]]) := by
 intro v W0 w pb T ET ov hr hb hp hpi hE hz
 dsimp only at hE
 rcases RdK_cases hr with ⟨e0, _⟩ | ⟨b, o, c, vs, hv, hn, hcs⟩
 · rw [e0] at h0; cases h0
 subst hv
 have hcap := RdK_cap hr
 have l0 : 0 < n.kids.length := (List.getElem?_eq_some_iff.1 h0).1
 obtain ⟨p0, q0, r0, t0, k0⟩ := hcs 0 x0 h0
 obtain ⟨s0, d0, e0⟩ := RdK_slice k0
 rw [e0] at r0 k0
 clear hcs
 have z3 := hz
 have zL := hE ▸ hz
 have z2 := pre_size (hE ▸ z3)
 have z1 := pre_size z2
 have HS := Sx.start (n := n) (nv := .slice (some ⟨b, o, none⟩) n.kids.length c) hb hpi
 have y0 := kind0 w n (.slice (some ⟨b, o, none⟩) n.kids.length c)
 have hpos : (0 : Int) < (n.kids.length : Int) := by omega
 have hlen := len_okP hr
 have y1 : (w.alloc (.cells #[.int .i64 n.kind, .string n.text, .slice (some ⟨b, o, none⟩) n.kids.length c] 30)).cell? ⟨w.heap.size, 1, none⟩ = some (.string n.text) := by rw [World.cell?_alloc_new]; rfl
 have y2 : (w.alloc (.cells #[.int .i64 n.kind, .string n.text, .slice (some ⟨b, o, none⟩) n.kids.length c] 30)).cell? ⟨w.heap.size, 2, none⟩ = some (.slice (some ⟨b, o, none⟩) n.kids.length c) := by rw [World.cell?_alloc_new]; rfl
 have htx : n.text.toList.isEmpty = true := by rw [toLL, hA]; rfl
 clear hb hpi hz
 have HH := h_ (And.intro hr (And.intro HS (And.intro ih (And.intro hf (And.intro hE (And.intro z1 (And.intro z2 (And.intro z3 (And.intro zL (And.intro hn (And.intro hcap (And.intro l0 (And.intro p0 (And.intro q0 (And.intro r0 (And.intro t0 (And.intro k0 (h0))))))))))))))))))
 clear hr HS ih hf hE z1 z2 z3 zL hn hcap l0 p0 q0 r0 t0 k0 h0
 unfold ndV
 rw [hk] at y0 y1 y2 HH ⊢
 go_enter Tryz.func44, Tryz.ntmps44
 go_wp2
 obtain ⟨hr, HS, ih, hf, hE, z1, z2, z3, zL, hn, hcap, l0, p0, q0, r0, t0, k0, h0⟩ := u_ HH
 refine region_prints [aP pb, .arr [[91]], aP pb, aF w 2, aK n b o c, aI b o 0, aN x0 s0 d0, aP pb, .arr [[93]], aP pb] [2, 7, 9] [T, T ++ [[91]], T ++ [[91]] ++ tk x0, ET] 26 rfl (by kernel_rfl) (by kernel_rfl) HS ?_ ?_
 · simp only [PlanSteps]
   exact ⟨ps_move rfl rfl (Kn.old rfl rfl),
     ps_arr1 rfl rfl (Kn.const _),
     ps_put 0 rfl (by decide) rfl rfl (Kn.tmp 0 rfl rfl rfl) (KnA.tmp 1 rfl rfl rfl) hp rfl z1,
     ps_field rfl rfl (by decide) (Kn.old rfl rfl),
     ps_load28 rfl rfl (Kn.tmp 3 rfl rfl rfl) (fun w h => h.c2),
     ps_index (i := 0) rfl rfl l0 hn (Kn.tmp 4 rfl rfl rfl) (Kn.const _),
     ps_load30 rfl rfl (Kn.tmp 5 rfl rfl rfl) (fun w h => h.far p0) (fun w h => h.far q0) (fun w h => h.far r0),
     ps_part 1 rfl (by decide) rfl rfl enters14 rfl (Kn.tmp 2 rfl rfl rfl) (Kn.tmp 6 rfl rfl rfl) (fun w h => sx_node hp (ih x0 (List.mem_of_getElem? h0)) (hf x0 (List.mem_of_getElem? h0)) t0 k0 z2 w h),
     ps_arr1 rfl rfl (Kn.const _),
     ps_put 2 rfl (by decide) rfl rfl (Kn.tmp 7 rfl rfl rfl) (KnA.tmp 8 rfl rfl rfl) hp hE z3, trivial⟩
 · intro a w' _ hd hs
   have HF := h_ hs.fin
   clear hs HS y0 hE
   go_wp2
   exact e44 hd ⟨rfl, u_ HF⟩
theorem iTc (n : Nd) (hk : n.kind = 8) (hks : n.kids = []) (hA : L n.text ≠ []) : IpT 44 n (fun T => T ++ [L n.text]) := by
 intro v W0 w pb T ET ov hr hb hp hpi hE hz
 dsimp only at hE
 obtain ⟨a', c', hv⟩ := RdK_slice hr
 subst hv
 have HS : Sx W0 pb w.heap.size n (.slice a' n.kids.length c') w ov T (w.alloc (.cells #[.int .i64 n.kind, .string n.text, .slice a' n.kids.length c'] 30)) := ⟨ov, Sti.start hb hpi 30⟩
 have y1 : (w.alloc (.cells #[.int .i64 n.kind, .string n.text, .slice a' n.kids.length c'] 30)).cell? ⟨w.heap.size, 1, none⟩ = some (.string n.text) := by rw [World.cell?_alloc_new]; rfl
 have y2 : (w.alloc (.cells #[.int .i64 n.kind, .string n.text, .slice a' n.kids.length c'] 30)).cell? ⟨w.heap.size, 2, none⟩ = some (.slice a' n.kids.length c') := by rw [World.cell?_alloc_new]; rfl
 have htx : n.text.toList.isEmpty = false := by rw [toLL]; exact List.isEmpty_eq_false_iff.2 hA
 have CP := h_ (fun (M c : Nat) (hM : M = w.heap.size + 1) => sx_putN hp [L n.text] 1 rfl (hE ▸ hz) M c _ (HS.alloc (.cells #[.string n.text] 9)) (Ax.new (cs := #[.string n.text]) HS.px (by rw [hM]; simp) (by show _ = #[Value.string (S (L n.text))]; rw [S_L])))
 rw [← hE] at CP
 clear hr hb hpi hz HS hA hE
 unfold ndV
 rw [hk, hks] at y1 y2 CP ⊢
 simp only [List.length_nil] at y1 y2 CP ⊢
 go_enter Tryz.func44, Tryz.ntmps44
 go_wp2_with (go_at_call 39; refine (u_ CP _ _ (by simp)).mono ?_; rintro e w1 ⟨rfl, hs1, _⟩; have y3 := (Kx.of hs1).c2; have HF := h_ hs1.fin; clear hs1)
 exact e44 rfl ⟨rfl, u_ HF⟩
theorem iTd (n : Nd) (x0 : Nd) (hk : n.kind = 8) (hA : L n.text ≠ []) (ih : ∀ x ∈ n.kids, IpC x) (hf : ∀ x ∈ n.kids, fm x = true) (h0 : n.kids[0]? = some x0) : IpT 44 n (fun T => T ++ [L n.text] ++ [[91]] ++ tk x0 ++ [[93]]) := by
 intro v W0 w pb T ET ov hr hb hp hpi hE hz
 dsimp only at hE
 rcases RdK_cases hr with ⟨e0, _⟩ | ⟨b, o, c, vs, hv, hn, hcs⟩
 · rw [e0] at h0; cases h0
 subst hv
 have hcap := RdK_cap hr
 have l0 : 0 < n.kids.length := (List.getElem?_eq_some_iff.1 h0).1
 obtain ⟨p0, q0, r0, t0, k0⟩ := hcs 0 x0 h0
 obtain ⟨s0, d0, e0⟩ := RdK_slice k0
 rw [e0] at r0 k0
 clear hcs
 have z3 := hz
 have zL := hE ▸ hz
 have z2 := pre_size (hE ▸ z3)
 have z1 := pre_size z2
 have zt := pre_size z1
 have HS := Sx.start (n := n) (nv := .slice (some ⟨b, o, none⟩) n.kids.length c) hb hpi
 have y0 := kind0 w n (.slice (some ⟨b, o, none⟩) n.kids.length c)
 have hpos : (0 : Int) < (n.kids.length : Int) := by omega
 have hlen := len_okP hr
 have y1 : (w.alloc (.cells #[.int .i64 n.kind, .string n.text, .slice (some ⟨b, o, none⟩) n.kids.length c] 30)).cell? ⟨w.heap.size, 1, none⟩ = some (.string n.text) := by rw [World.cell?_alloc_new]; rfl
 have y2 : (w.alloc (.cells #[.int .i64 n.kind, .string n.text, .slice (some ⟨b, o, none⟩) n.kids.length c] 30)).cell? ⟨w.heap.size, 2, none⟩ = some (.slice (some ⟨b, o, none⟩) n.kids.length c) := by rw [World.cell?_alloc_new]; rfl
 have htx : n.text.toList.isEmpty = false := by rw [toLL]; exact List.isEmpty_eq_false_iff.2 hA
 have CP := h_ (fun (M c' : Nat) (hM : M = w.heap.size + 1) => sx_putN hp [L n.text] 1 rfl zt M c' _ (HS.alloc (.cells #[.string n.text] 9)) (Ax.new (cs := #[.string n.text]) HS.px (by rw [hM]; simp) (by show _ = #[Value.string (S (L n.text))]; rw [S_L])))
 clear hb hpi hz zt
 have HH := h_ (And.intro hr (And.intro HS (And.intro ih (And.intro hf (And.intro hE (And.intro z1 (And.intro z2 (And.intro z3 (And.intro zL (And.intro hn (And.intro hcap (And.intro l0 (And.intro p0 (And.intro q0 (And.intro r0 (And.intro t0 (And.intro k0 (h0))))))))))))))))))
 clear hr HS ih hf hE z1 z2 z3 zL hn hcap l0 p0 q0 r0 t0 k0 h0
 unfold ndV
 rw [hk] at y0 y1 y2 HH CP ⊢
 go_enter Tryz.func44, Tryz.ntmps44
 go_wp2_with (go_at_call 39; refine (u_ CP _ _ (by simp)).mono ?_; rintro e w1 ⟨rfl, hs1, _⟩; have y3 := (Kx.of hs1).c2; have HS1 := h_ hs1; clear hs1)
 replace HS1 := u_ HS1
 obtain ⟨hr, HS, ih, hf, hE, z1, z2, z3, zL, hn, hcap, l0, p0, q0, r0, t0, k0, h0⟩ := u_ HH
 refine region_prints [aP pb, .arr [[91]], aP pb, aF w 2, aK n b o c, aI b o 0, aN x0 s0 d0, aP pb, .arr [[93]], aP pb] [2, 7, 9] [T ++ [L n.text], T ++ [L n.text] ++ [[91]], T ++ [L n.text] ++ [[91]] ++ tk x0, ET] 26 rfl (by kernel_rfl) (by kernel_rfl) HS1 ?_ ?_
 · simp only [PlanSteps]
   exact ⟨ps_move rfl rfl (Kn.old rfl rfl),
     ps_arr1 rfl rfl (Kn.const _),
     ps_put 0 rfl (by decide) rfl rfl (Kn.tmp 0 rfl rfl rfl) (KnA.tmp 1 rfl rfl rfl) hp rfl z1,
     ps_field rfl rfl (by decide) (Kn.old rfl rfl),
     ps_load28 rfl rfl (Kn.tmp 3 rfl rfl rfl) (fun w h => h.c2),
     ps_index (i := 0) rfl rfl l0 hn (Kn.tmp 4 rfl rfl rfl) (Kn.const _),
     ps_load30 rfl rfl (Kn.tmp 5 rfl rfl rfl) (fun w h => h.far p0) (fun w h => h.far q0) (fun w h => h.far r0),
     ps_part 1 rfl (by decide) rfl rfl enters14 rfl (Kn.tmp 2 rfl rfl rfl) (Kn.tmp 6 rfl rfl rfl) (fun w h => sx_node hp (ih x0 (List.mem_of_getElem? h0)) (hf x0 (List.mem_of_getElem? h0)) t0 k0 z2 w h),
     ps_arr1 rfl rfl (Kn.const _),
     ps_put 2 rfl (by decide) rfl rfl (Kn.tmp 7 rfl rfl rfl) (KnA.tmp 8 rfl rfl rfl) hp hE z3, trivial⟩
 · intro a w' _ hd hs
   have HF := h_ hs.fin
   clear hs HS HS1 CP y0 y1 y2 y3 hE
   go_wp2
   exact e44 hd ⟨rfl, u_ HF⟩
theorem ip8 (n : Nd) (E : List Tok → List Tok) (hk : n.kind = 8) (hT : IpT 44 n E) : IpT 29 n E := by
 intro v W0 w pb T ET ov hr hb hp hpi hE hz
 obtain ⟨a', c', hv⟩ := RdK_slice hr
 subst hv
 have y0 : (w.alloc (.cells #[.int .i64 n.kind, .string n.text, .slice a' n.kids.length c'] 30)).cell? ⟨w.heap.size, 0, none⟩ = some (.int .i64 n.kind) := by rw [World.cell?_alloc_new]; rfl
 have y1 : (w.alloc (.cells #[.int .i64 n.kind, .string n.text, .slice a' n.kids.length c'] 30)).cell? ⟨w.heap.size, 1, none⟩ = some (.string n.text) := by rw [World.cell?_alloc_new]; rfl
 have y2 : (w.alloc (.cells #[.int .i64 n.kind, .string n.text, .slice a' n.kids.length c'] 30)).cell? ⟨w.heap.size, 2, none⟩ = some (.slice a' n.kids.length c') := by rw [World.cell?_alloc_new]; rfl
 have CP := h_ (hT _ W0 (w.alloc (.cells #[.int .i64 n.kind, .string n.text, .slice a' n.kids.length c'] 30)) pb T ET ov hr (hb.alloc hb.size _) hp (hpi.alloc _) hE hz)
 have PR := h_ (Pr.ofAlloc pb ov w (.cells #[.int .i64 n.kind, .string n.text, .slice a' n.kids.length c'] 30))
 clear hr hb hpi hz hE hT
 unfold ndV at CP ⊢
 rw [hk] at y0 y1 y2 CP PR ⊢
 go_enter Tryz.func29, Tryz.ntmps29
 go_wp2_with (go_at_call 44; refine (u_ CP).mono ?_; rintro e w1 ⟨rfl, ov1, hpi1, hpr1⟩; have HF := h_ hpi1; have HG := h_ hpr1; clear hpi1 hpr1)
 exact e29 rfl ⟨rfl, ov1, u_ HF, (u_ PR).trans (u_ HG)⟩
end Go.Proofs.YtddlokkejglckaaGreatDoor
