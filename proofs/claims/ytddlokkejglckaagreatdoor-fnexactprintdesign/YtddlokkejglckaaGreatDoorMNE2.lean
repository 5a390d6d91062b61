/- Parts of the proof: NE2 to NE8. -/
import Derived.Test.YtddlokkejglckaaGreatDoorMNS2
namespace Go.Proofs.YtddlokkejglckaaGreatDoor
open Go.RowKit Nt
set_option linter.unusedVariables false
set_option maxRecDepth 100000
theorem kidsB_len : ∀ (ks : List Nd) (cs : List Nat), ks.length ≠ cs.length → kidsB ks cs = false := by
 intro ks
 induction ks with
 | nil => intro cs h; cases cs with
   | nil => exact absurd rfl h
   | cons c cs => rfl
 | cons x xs ih => intro cs h; cases cs with
   | nil => rfl
   | cons c cs =>
     show (okIs c x && kidsB xs cs) = false
     rw [ih cs (by simpa using h), Bool.and_false]
theorem keep4 {W V v1 : World} {a b c d : Addr} {x y z u : Value} (h : V.cell? a = some x ∧ V.cell? b = some y ∧ V.cell? c = some z ∧ V.cell? d = some u ∧ Below W.heap.size W V) (hb : Below V.heap.size V v1) :
   v1.cell? a = some x ∧ v1.cell? b = some y ∧ v1.cell? c = some z ∧ v1.cell? d = some u ∧ Below W.heap.size W v1 :=
 ⟨c_ hb h.1, c_ hb h.2.1, c_ hb h.2.2.1, c_ hb h.2.2.2.1, below_step h.2.2.2.2 hb⟩
theorem below4 {W V : World} {a b c d : Addr} {x y z u : Value} (h : V.cell? a = some x ∧ V.cell? b = some y ∧ V.cell? c = some z ∧ V.cell? d = some u ∧ Below W.heap.size W V) : Below W.heap.size W V := h.2.2.2.2
def ltr (f : ByteArray) : List Nat := (L f).map (·.toNat)
theorem ltr_len (f : ByteArray) : (ltr f).length = f.size := by unfold ltr; rw [List.length_map, L_len]
set_option maxHeartbeats 400000 in
theorem kidsN (n : Nd) (ih : ∀ x ∈ n.kids, IsC x) (v : Value) (w : World) (f : ByteArray) (hf : ∀ c ∈ ltr f, c ∈ lettersL) (hfs : f.size ≤ 3) (hr : RdK w n.kids v) :
   CB 46 #[ndV n v, .string f] w (.bool (kidsB n.kids (ltr f))) := by
 have HP := h_ ih
 clear ih
 unfold ndV
 have hfl := ltr_len f
 obtain ⟨a0, c0, rfl⟩ := RdK_slice hr
 have hlen : n.kids.length ≤ 9223372036854775807 := by
   rcases RdK_cases hr with ⟨h0, _⟩ | ⟨b, o, c, vs, hvv, hn, hcs⟩
   · rw [h0]; simp
   · unfold maxLen at hn; omega
 by_cases hne : n.kids.length = f.size
 · have z1 : (w.alloc (Obj.cells #[Value.int IntKind.i64 n.kind, Value.string n.text, Value.slice a0 n.kids.length c0] 30)).cell? ⟨w.heap.size, 2, none⟩ = some (.slice a0 n.kids.length c0) := by rw [World.cell?_alloc_new]; rfl
   have HB1 : Hid (Below w.heap.size w (w.alloc (Obj.cells #[Value.int IntKind.i64 n.kind, Value.string n.text, Value.slice a0 n.kids.length c0] 30))) := h_ (bal (brf w) _)
   have q0 : ((n.kids.length : Int) == (f.size : Int)) = true := by rw [beq_iff_eq]; omega
   have q1 : ((n.kids.length : Int) != (f.size : Int)) = false := by rw [bne, q0]; rfl
   have HNE := h_ hne
   have hle : n.kids.length ≤ 3 := by omega
   clear hne
   generalize n.kind = xk, n.text = xt at *
   go_enter Tryz.func46, Tryz.ntmps46
   go_wp2
   generalize hw1 : w.alloc (Obj.cells #[Value.int IntKind.i64 xk, Value.string xt, Value.slice a0 n.kids.length c0] 30) = w1 at *
   go_loopw [5] (fun i wr => ∃ j : Nat, i = .int .i64 j ∧ j ≤ f.size ∧ Below w1.heap.size w1 wr ∧ kidsB (n.kids.drop j) ((ltr f).drop j) = kidsB n.kids (ltr f)) (fun i wr => f.size - (intOf i).toNat)
   case atStart => exact ⟨0, rfl, Nat.zero_le _, brf _, rfl⟩
   case round =>
     obtain ⟨j, rfl, hj, hb, hall⟩ := hrel
     have z2 := c_ hb z1
     have hbw := below_step (u_ HB1) hb
     have HB := h_ hbw
     have HA := h_ hall
     have HB0 := h_ hb
     by_cases hjn : j < f.size
     · have hjk : j < n.kids.length := by have := u_ HNE; omega
       have hx : n.kids[j]? = some n.kids[j] := List.getElem?_eq_getElem hjk
       have hdr := List.drop_eq_getElem_cons (l := n.kids) (i := j) hjk
       have hdc := List.drop_eq_getElem_cons (l := ltr f) (i := j) (by omega)
       have hcj : (ltr f)[j]'(by omega) = f[j].toNat := by unfold ltr; rw [List.getElem_map]; rfl
       have hmem : f[j].toNat ∈ lettersL := hf _ (by rw [← hcj]; exact List.getElem_mem _)
       rw [hcj] at hdc
       generalize n.kids[j] = x at hx hdr
       rcases RdK_cases hr with ⟨h0, _⟩ | ⟨b, o, c', vs, hvv, hn, hcs⟩
       · rw [h0] at hjk; simp at hjk
       obtain ⟨k1, k2, k3, hts, hk⟩ := hcs j x hx
       have k1' := c_ hbw k1
       have k2' := c_ hbw k2
       have k3' := c_ hbw k3
       have PX := h_ (fun (wy : World) (hy : Below wr.heap.size wr wy) => u_ HP x (List.mem_of_getElem? hx) (vs j) wy f[j].toNat hmem hts (RdK_later hy (RdK_later hbw hk)))
       unfold ndV at PX
       obtain ⟨ha0, hc0⟩ : a0 = some ⟨b, o, none⟩ ∧ c0 = c' := by injection hvv with h1 h2 h3; exact ⟨h1, h3⟩
       subst ha0 hc0
       obtain ⟨a', c'', hv'⟩ := RdK_slice hk
       rw [hv'] at k3' PX
       have HA2 : Hid ((okIs f[j].toNat x && kidsB (n.kids.drop (j + 1)) ((ltr f).drop (j + 1))) = kidsB n.kids (ltr f)) := h_ (by rw [← u_ HA, hdr, hdc]; rfl)
       clear hb hbw k1 k2 k3 hk hcs hvv hr hall HA hdr hdc hcj hf
       cases hok : okIs f[j].toNat x with
       | true =>
         rw [hok] at PX HA2
         rw [Bool.true_and] at HA2
         generalize x.kind = yk at *
         generalize x.text = yt at *
         go_wp2
         go_region_held3 (fun w' => w'.cell? ⟨w.heap.size, 2, none⟩ = some (.slice (some ⟨b, o, none⟩) n.kids.length c0) ∧ w'.cell? ⟨b, o + j * 3, none⟩ = some (.int .i64 yk) ∧ w'.cell? ⟨b, o + j * 3 + 1, none⟩ = some (.string yt) ∧ w'.cell? ⟨b, o + j * 3 + 2, none⟩ = some (.slice a' x.kids.length c'') ∧ Below wr.heap.size wr w')
           (first | (exact ⟨z2, k1', k2', k3', bdr (brf _)⟩) | (exact keep4 (by assumption) hb1))
           (first | (go_at_call 33; refine (u_ PX _ (below4 (by assumption))).mono ?_; rintro e v1 ⟨rfl, hb1⟩))
         all_goals
           have hSf : v1.cell? ⟨w.heap.size, 2, none⟩ = some (.slice (some ⟨b, o, none⟩) n.kids.length c0) ∧ v1.cell? ⟨b, o + j * 3, none⟩ = some (.int .i64 yk) ∧ v1.cell? ⟨b, o + j * 3 + 1, none⟩ = some (.string yt) ∧ v1.cell? ⟨b, o + j * 3 + 2, none⟩ = some (.slice a' x.kids.length c'') ∧ Below wr.heap.size wr v1 := by assumption
           have HB2 := h_ (below_step (u_ HB0) (below4 hSf))
           clear hSf k1' k2' k3' z2
           go_wp2
           exact ⟨⟨j + 1, by go_num, by omega, u_ HB2, u_ HA2⟩, by simp [intOf]; omega⟩
       | false =>
         rw [hok] at PX HA2
         rw [Bool.false_and] at HA2
         generalize x.kind = yk at *
         generalize x.text = yt at *
         go_wp2
         go_region_held3 (fun w' => w'.cell? ⟨w.heap.size, 2, none⟩ = some (.slice (some ⟨b, o, none⟩) n.kids.length c0) ∧ w'.cell? ⟨b, o + j * 3, none⟩ = some (.int .i64 yk) ∧ w'.cell? ⟨b, o + j * 3 + 1, none⟩ = some (.string yt) ∧ w'.cell? ⟨b, o + j * 3 + 2, none⟩ = some (.slice a' x.kids.length c'') ∧ Below wr.heap.size wr w')
           (first | (exact ⟨z2, k1', k2', k3', bdr (brf _)⟩) | (exact keep4 (by assumption) hb1))
           (first | (go_at_call 33; refine (u_ PX _ (below4 (by assumption))).mono ?_; rintro e v1 ⟨rfl, hb1⟩))
         all_goals
           have hSf : v1.cell? ⟨w.heap.size, 2, none⟩ = some (.slice (some ⟨b, o, none⟩) n.kids.length c0) ∧ v1.cell? ⟨b, o + j * 3, none⟩ = some (.int .i64 yk) ∧ v1.cell? ⟨b, o + j * 3 + 1, none⟩ = some (.string yt) ∧ v1.cell? ⟨b, o + j * 3 + 2, none⟩ = some (.slice a' x.kids.length c'') ∧ Below wr.heap.size wr v1 := by assumption
           have HB2 := h_ (below_step (u_ HB) (below4 hSf))
           clear hSf k1' k2' k3' z2
           go_wp2
           exact bodyPost_ret (v := .bool false) (by simp [results, Tryz.results46, go_sem]) rfl ⟨by rw [← u_ HA2], u_ HB2⟩
     · rw [List.drop_of_length_le (l := n.kids) (by have := u_ HNE; omega), List.drop_of_length_le (l := ltr f) (by omega)] at HA
       clear hb hbw hr hall hf
       go_wp2
       exact bodyPost_ret (v := .bool true) (by simp [results, Tryz.results46, go_sem]) rfl ⟨by rw [← u_ HA]; rfl, u_ HB⟩
 · rw [kidsB_len _ _ (by omega)]
   have q0 : ((n.kids.length : Int) == (f.size : Int)) = false := beq_eq_false_iff_ne.2 (by omega)
   have q1 : ((n.kids.length : Int) != (f.size : Int)) = true := by rw [bne, q0]; rfl
   clear hr hf
   generalize n.kind = xk, n.text = xt at *
   go_enter Tryz.func46, Tryz.ntmps46
   go_wp2
   exact bodyPost_ret (v := .bool false) (by simp [results, Tryz.results46, go_sem]) rfl ⟨rfl, bal (brf w) _⟩
set_option maxHeartbeats 400000
theorem hasB_of (s : Nat) (l : List Nat) (h : ∀ i : Fin 48, (decide (1 ≤ i.val) && s.testBit i.val) = l.contains i.val) (hl : l.all (fun i => decide (i < 48)) = true) (k : Int) : hasB s k = l.any (fun i => k == (i : Int)) := by
 unfold hasB
 by_cases h1 : 1 ≤ k ∧ k ≤ 47
 · obtain ⟨m, rfl⟩ : ∃ m : Nat, k = m := ⟨k.toNat, by omega⟩
   have := h ⟨m, by omega⟩
   rw [decide_eq_true (by omega : (1 : Nat) ≤ m), Bool.true_and] at this
   simp only at this
   rw [decide_eq_true h1.1, decide_eq_true h1.2, Bool.true_and, Bool.true_and, Int.toNat_natCast, this]
   rw [Bool.eq_iff_iff]
   simp only [List.contains_iff_mem, List.any_eq_true, beq_iff_eq]
   constructor
   · intro hm; exact ⟨m, hm, rfl⟩
   · rintro ⟨i, hi, e⟩
     have : m = i := by omega
     rw [this]; exact hi
 · have hf : (decide (1 ≤ k) && decide (k ≤ 47)) = false := by
     rw [← Bool.not_eq_true]; intro e; simp only [Bool.and_eq_true, decide_eq_true_eq] at e; exact h1 e
   rw [hf, Bool.false_and]
   symm
   rw [← Bool.not_eq_true]
   intro e
   simp only [List.any_eq_true, beq_iff_eq] at e
   obtain ⟨i, hi, rfl⟩ := e
   have hb := List.all_eq_true.1 hl i hi
   simp only [decide_eq_true_eq] at hb
   by_cases hz : i = 0
   · subst hz
     have := h ⟨0, by omega⟩
     have this : false = l.contains 0 := this
     have hc : l.contains 0 = true := by simpa using hi
     rw [hc] at this; cases this
   · exact h1 ⟨by omega, by omega⟩
theorem has_tgt (k : Int) : hasB tgtK k = [37, 38, 39].any (fun i : Nat => k == (i : Int)) := hasB_of _ _ (by decide) (by decide) k
theorem has_exp (k : Int) : hasB expK k = [36, 37, 38, 39, 40, 41, 42, 43, 44, 45, 46, 47].any (fun i : Nat => k == (i : Int)) := hasB_of _ _ (by decide) (by decide) k
theorem has_stm (k : Int) : hasB stmK k = [27, 28, 29, 30, 33, 34, 35].any (fun i : Nat => k == (i : Int)) := hasB_of _ _ (by decide) (by decide) k
theorem has_itm (k : Int) : hasB itmK k = [9, 10, 11, 12, 13, 14, 15, 16, 17, 18, 19, 20, 21, 22].any (fun i : Nat => k == (i : Int)) := hasB_of _ _ (by decide) (by decide) k
theorem has_one (i : Nat) (h1 : 1 ≤ i) (h2 : i < 48) (k : Int) : hasB (2 ^ i) k = (k == (i : Int)) := by
 rw [hasB_of (2 ^ i) [i] (fun j => ?_) (by simpa using h2) k]
 · simp
 · rw [Nat.testBit_two_pow]
   simp only [List.contains_cons, List.contains_nil, Bool.or_false]
   rw [Bool.eq_iff_iff]
   simp only [Bool.and_eq_true, decide_eq_true_eq, beq_iff_eq]
   omega
theorem okT (k : Int) (t : ByteArray) (ks : List Nd) : okIs 84 (.mk k t ks) = (freeB t && ((k == 37) && ks.isEmpty || (k == 38) && kidsB ks [101] || (k == 39) && kidsB ks [101, 101])) := by
 rw [okIs_of (by decide), kidsB_of _ _ (by decide), kidsB_of _ _ (by decide)]
 show (hasB tgtK k && fm (.mk k t ks)) = _
 rw [has_tgt, fm_mk]
 by_cases h1 : k = 37
 · subst h1
   have e1 : txB 37 t = freeB t := rfl
   have e2 : kdB 37 ks = ks.isEmpty := rfl
   rw [e1, e2]
   cases ks with
   | nil => simp [fmL]
   | cons x xs => simp
 by_cases h2 : k = 38
 · subst h2
   have e1 : txB 38 t = freeB t := rfl
   have e2 : kdB 38 ks = fitK ks [expK] := rfl
   rw [e1, e2]
   have e3 : ([101].map setOf) = [expK] := rfl
   rw [e3]
   cases freeB t <;> cases fitK ks [expK] <;> cases fmL ks <;> simp
 by_cases h3 : k = 39
 · subst h3
   have e1 : txB 39 t = freeB t := rfl
   have e2 : kdB 39 ks = fitK ks [expK, expK] := rfl
   rw [e1, e2]
   have e3 : ([101, 101].map setOf) = [expK, expK] := rfl
   rw [e3]
   cases freeB t <;> cases fitK ks [expK, expK] <;> cases fmL ks <;> simp
 have a1 : (k == 37) = false := beq_eq_false_iff_ne.2 h1
 have a2 : (k == 38) = false := beq_eq_false_iff_ne.2 h2
 have a3 : (k == 39) = false := beq_eq_false_iff_ne.2 h3
 simp [a1, a2, a3]
theorem len_ok {w : World} {ks : List Nd} {v : Value} (hr : RdK w ks v) : ks.length ≤ 9223372036854775807 := by
 rcases RdK_cases hr with ⟨h0, _⟩ | ⟨b, o, c, vs, hvv, hn, hcs⟩
 · rw [h0]; simp
 · unfold maxLen at hn; omega
theorem isTno (n : Nd) (v : Value) (w : World) (ht : n.text.size ≤ maxLen) (hr : RdK w n.kids v) (hf : freeB n.text = false) :
   CB 33 #[ndV n v, .int .u8 84] w (.bool false) := by
 have FR := h_ (fun w' => sFree n.text w' ht)
 rw [hf] at FR
 obtain ⟨a0, c0, rfl⟩ := RdK_slice hr
 unfold ndV
 clear hr ht hf
 generalize n.kind = xk, n.text = xt at *
 go_enter Tryz.func33, Tryz.ntmps33
 go_wp2_with (go_at_call 47; refine (u_ FR _).mono ?_; rintro e w' ⟨rfl, rfl⟩)
 go_ret
 exact ⟨rfl, bal (brf w) _⟩
theorem isT37 (n : Nd) (v : Value) (w : World) (ht : n.text.size ≤ maxLen) (hr : RdK w n.kids v) (hf : freeB n.text = true) (hk : n.kind = 37) :
   CB 33 #[ndV n v, .int .u8 84] w (.bool n.kids.isEmpty) := by
 have FR := h_ (fun w' => sFree n.text w' ht)
 rw [hf] at FR
 have hl := len_ok hr
 obtain ⟨a0, c0, rfl⟩ := RdK_slice hr
 unfold ndV
 rw [hk]
 clear hr ht hf
 generalize n.text = xt at *
 by_cases h0 : n.kids.length = 0
 · have he : n.kids = [] := List.eq_nil_of_length_eq_zero h0
   rw [he]
   go_enter Tryz.func33, Tryz.ntmps33
   go_wp2_with (go_at_call 47; refine (u_ FR _).mono ?_; rintro e w' ⟨rfl, rfl⟩)
   go_ret
   exact ⟨rfl, bal (brf w) _⟩
 · have he : n.kids.isEmpty = false := by cases h : n.kids with | nil => rw [h] at h0; simp at h0 | cons x xs => rfl
   have q : ((n.kids.length : Int) == 0) = false := beq_eq_false_iff_ne.2 (by omega)
   rw [he]
   go_enter Tryz.func33, Tryz.ntmps33
   go_wp2_with (go_at_call 47; refine (u_ FR _).mono ?_; rintro e w' ⟨rfl, rfl⟩)
   go_ret
   exact ⟨rfl, bal (brf w) _⟩
theorem isT38 (n : Nd) (ih : ∀ x ∈ n.kids, IsC x) (v : Value) (w : World) (ht : n.text.size ≤ maxLen) (hr : RdK w n.kids v) (hf : freeB n.text = true) (hk : n.kind = 38) :
   CB 33 #[ndV n v, .int .u8 84] w (.bool (kidsB n.kids [101])) := by
 have FR := h_ (fun w' => sFree n.text w' ht)
 have K1 := h_ (fun w' hr' => kidsN n ih v w' ⟨#[101]⟩ (by decide) (by decide) hr')
 have hk1 : ltr ⟨#[101]⟩ = [101] := by decide
 have HR := h_ hr
 rw [hk1] at K1
 rw [hf] at FR
 have hl := len_ok hr
 obtain ⟨a0, c0, rfl⟩ := RdK_slice hr
 unfold ndV at K1 ⊢
 rw [hk] at K1 ⊢
 clear hr ht hf hk1 ih
 generalize n.text = xt at *
 cases hb : kidsB n.kids [101] with
 | false =>
   rw [hb] at K1
   clear hb
   go_enter Tryz.func33, Tryz.ntmps33
   go_wp2_with (first | (go_at_call 47; refine (u_ FR _).mono ?_; rintro e w' ⟨rfl, rfl⟩) | (go_at_call 46; refine (u_ K1 _ (RdK_later (bal (brf w) _) (u_ HR))).mono ?_; rintro e v1 ⟨rfl, hb1⟩))
   go_ret
   exact ⟨rfl, btr (bal (brf w) _) hb1⟩
 | true =>
   rw [hb] at K1
   clear hb
   go_enter Tryz.func33, Tryz.ntmps33
   go_wp2_with (first | (go_at_call 47; refine (u_ FR _).mono ?_; rintro e w' ⟨rfl, rfl⟩) | (go_at_call 46; refine (u_ K1 _ (RdK_later (bal (brf w) _) (u_ HR))).mono ?_; rintro e v1 ⟨rfl, hb1⟩))
   go_ret
   exact ⟨rfl, btr (bal (brf w) _) hb1⟩
theorem isT39 (n : Nd) (ih : ∀ x ∈ n.kids, IsC x) (v : Value) (w : World) (ht : n.text.size ≤ maxLen) (hr : RdK w n.kids v) (hf : freeB n.text = true) (hk : n.kind = 39) :
   CB 33 #[ndV n v, .int .u8 84] w (.bool (kidsB n.kids [101, 101])) := by
 have FR := h_ (fun w' => sFree n.text w' ht)
 have K1 := h_ (fun w' hr' => kidsN n ih v w' ⟨#[101, 101]⟩ (by decide) (by decide) hr')
 have hk1 : ltr ⟨#[101, 101]⟩ = [101, 101] := by decide
 have HR := h_ hr
 rw [hk1] at K1
 rw [hf] at FR
 have hl := len_ok hr
 obtain ⟨a0, c0, rfl⟩ := RdK_slice hr
 unfold ndV at K1 ⊢
 rw [hk] at K1 ⊢
 clear hr ht hf hk1 ih
 generalize n.text = xt at *
 cases hb : kidsB n.kids [101, 101] with
 | false =>
   rw [hb] at K1
   clear hb
   go_enter Tryz.func33, Tryz.ntmps33
   go_wp2_with (first | (go_at_call 47; refine (u_ FR _).mono ?_; rintro e w' ⟨rfl, rfl⟩) | (go_at_call 46; refine (u_ K1 _ (RdK_later (bal (brf w) _) (u_ HR))).mono ?_; rintro e v1 ⟨rfl, hb1⟩))
   go_ret
   exact ⟨rfl, btr (bal (brf w) _) hb1⟩
 | true =>
   rw [hb] at K1
   clear hb
   go_enter Tryz.func33, Tryz.ntmps33
   go_wp2_with (first | (go_at_call 47; refine (u_ FR _).mono ?_; rintro e w' ⟨rfl, rfl⟩) | (go_at_call 46; refine (u_ K1 _ (RdK_later (bal (brf w) _) (u_ HR))).mono ?_; rintro e v1 ⟨rfl, hb1⟩))
   go_ret
   exact ⟨rfl, btr (bal (brf w) _) hb1⟩
theorem isTelse (n : Nd) (v : Value) (w : World) (ht : n.text.size ≤ maxLen) (hr : RdK w n.kids v) (hf : freeB n.text = true) (h1 : n.kind ≠ 37) (h2 : n.kind ≠ 38) (h3 : n.kind ≠ 39) :
   CB 33 #[ndV n v, .int .u8 84] w (.bool false) := by
 have FR := h_ (fun w' => sFree n.text w' ht)
 rw [hf] at FR
 obtain ⟨a0, c0, rfl⟩ := RdK_slice hr
 unfold ndV
 clear hr ht hf
 generalize n.kind = xk, n.text = xt at *
 have a1 : (xk == 37) = false := beq_eq_false_iff_ne.2 h1
 have a2 : (xk == 38) = false := beq_eq_false_iff_ne.2 h2
 have a3 : (xk == 39) = false := beq_eq_false_iff_ne.2 h3
 clear h1 h2 h3
 go_enter Tryz.func33, Tryz.ntmps33
 go_wp2_with (go_at_call 47; refine (u_ FR _).mono ?_; rintro e w' ⟨rfl, rfl⟩)
 go_ret
 exact ⟨rfl, bal (brf w) _⟩
theorem isT (n : Nd) (ih : ∀ x ∈ n.kids, IsC x) (v : Value) (w : World) (ht : n.text.size ≤ maxLen) (hr : RdK w n.kids v) :
   CB 33 #[ndV n v, .int .u8 84] w (.bool (okIs 84 n)) := by
 have hok := okT n.kind n.text n.kids
 rw [Nd.eta] at hok
 rw [hok]
 cases hf : freeB n.text with
 | false => exact isTno n v w ht hr hf
 | true =>
   rw [Bool.true_and]
   by_cases h1 : n.kind = 37
   · rw [h1]; simpa using isT37 n v w ht hr hf h1
   by_cases h2 : n.kind = 38
   · rw [h2]; simpa using isT38 n ih v w ht hr hf h2
   by_cases h3 : n.kind = 39
   · rw [h3]; simpa using isT39 n ih v w ht hr hf h3
   have a1 : (n.kind == 37) = false := beq_eq_false_iff_ne.2 h1
   have a2 : (n.kind == 38) = false := beq_eq_false_iff_ne.2 h2
   have a3 : (n.kind == 39) = false := beq_eq_false_iff_ne.2 h3
   rw [a1, a2, a3]
   exact isTelse n v w ht hr hf h1 h2 h3
theorem L_emp (s : ByteArray) : (s.size == 0) = (L s).isEmpty := by
 rw [← L_len]; cases L s <;> simp
theorem ex42n (n : Nd) (ih : ∀ x ∈ n.kids, IsC x) (v : Value) (w : World) (ht : n.text.size ≤ maxLen) (hr : RdK w n.kids v) (hk : n.kind = 42) (hA : (n.text.size == 0) = false) :
   CB 50 #[ndV n v] w (.bool false) := by
 have hn : n.text.toList.isEmpty = false := by rw [toListL, ← L_emp]; exact hA
 obtain ⟨a0, c0, rfl⟩ := RdK_slice hr
 unfold ndV
 rw [hk]
 clear hr ht hA ih
 generalize n.text = xt at *
 go_enter Tryz.func50, Tryz.ntmps50
 go_wp2
 go_ret
 exact ⟨rfl, bal (brf w) _⟩
theorem ex42f (n : Nd) (ih : ∀ x ∈ n.kids, IsC x) (v : Value) (w : World) (ht : n.text.size ≤ maxLen) (hr : RdK w n.kids v) (hk : n.kind = 42) (hA : (n.text.size == 0) = true) (hB : (kidsB n.kids [101, 101]) = false) :
   CB 50 #[ndV n v] w (.bool false) := by
 have hn : n.text.toList.isEmpty = true := by rw [toListL, ← L_emp]; exact hA
 have K1 := h_ (fun w' hr' => kidsN n ih v w' ⟨#[101, 101]⟩ (by decide) (by decide) hr')
 have hk1 : ltr ⟨#[101, 101]⟩ = [101, 101] := by decide
 rw [hk1] at K1
 rw [hB] at K1
 have HR := h_ hr
 obtain ⟨a0, c0, rfl⟩ := RdK_slice hr
 unfold ndV at K1 ⊢
 rw [hk] at K1 ⊢
 clear hr ht hA hB ih
 generalize n.text = xt at *
 go_enter Tryz.func50, Tryz.ntmps50
 go_wp2_with (first | (go_at_call 46; refine (u_ K1 _ (RdK_later (bal (brf w) _) (u_ HR))).mono ?_; rintro e v1 ⟨rfl, hb1⟩))
 go_ret
 exact ⟨rfl, btr (bal (brf w) _) hb1⟩
theorem ex42t (n : Nd) (ih : ∀ x ∈ n.kids, IsC x) (v : Value) (w : World) (ht : n.text.size ≤ maxLen) (hr : RdK w n.kids v) (hk : n.kind = 42) (hA : (n.text.size == 0) = true) (hB : (kidsB n.kids [101, 101]) = true) :
   CB 50 #[ndV n v] w (.bool true) := by
 have hn : n.text.toList.isEmpty = true := by rw [toListL, ← L_emp]; exact hA
 have K1 := h_ (fun w' hr' => kidsN n ih v w' ⟨#[101, 101]⟩ (by decide) (by decide) hr')
 have hk1 : ltr ⟨#[101, 101]⟩ = [101, 101] := by decide
 rw [hk1] at K1
 rw [hB] at K1
 have HR := h_ hr
 obtain ⟨a0, c0, rfl⟩ := RdK_slice hr
 unfold ndV at K1 ⊢
 rw [hk] at K1 ⊢
 clear hr ht hA hB ih
 generalize n.text = xt at *
 go_enter Tryz.func50, Tryz.ntmps50
 go_wp2_with (first | (go_at_call 46; refine (u_ K1 _ (RdK_later (bal (brf w) _) (u_ HR))).mono ?_; rintro e v1 ⟨rfl, hb1⟩))
 go_ret
 exact ⟨rfl, btr (bal (brf w) _) hb1⟩
theorem ex42 (n : Nd) (ih : ∀ x ∈ n.kids, IsC x) (v : Value) (w : World) (ht : n.text.size ≤ maxLen) (hr : RdK w n.kids v) (hk : n.kind = 42) :
   CB 50 #[ndV n v] w (.bool ((n.text.size == 0) && kidsB n.kids [101, 101])) := by
 cases hA : (n.text.size == 0) with
 | false => exact ex42n n ih v w ht hr hk hA
 | true =>
   cases hB : (kidsB n.kids [101, 101]) with
   | false => exact ex42f n ih v w ht hr hk hA hB
   | true => exact ex42t n ih v w ht hr hk hA hB
theorem ex43n (n : Nd) (ih : ∀ x ∈ n.kids, IsC x) (v : Value) (w : World) (ht : n.text.size ≤ maxLen) (hr : RdK w n.kids v) (hk : n.kind = 43) (hA : (n.text.size == 0) = false) :
   CB 50 #[ndV n v] w (.bool false) := by
 have hn : n.text.toList.isEmpty = false := by rw [toListL, ← L_emp]; exact hA
 obtain ⟨a0, c0, rfl⟩ := RdK_slice hr
 unfold ndV
 rw [hk]
 clear hr ht hA ih
 generalize n.text = xt at *
 go_enter Tryz.func50, Tryz.ntmps50
 go_wp2
 go_ret
 exact ⟨rfl, bal (brf w) _⟩
theorem ex43f (n : Nd) (ih : ∀ x ∈ n.kids, IsC x) (v : Value) (w : World) (ht : n.text.size ≤ maxLen) (hr : RdK w n.kids v) (hk : n.kind = 43) (hA : (n.text.size == 0) = true) (hB : (kidsB n.kids [101]) = false) :
   CB 50 #[ndV n v] w (.bool false) := by
 have hn : n.text.toList.isEmpty = true := by rw [toListL, ← L_emp]; exact hA
 have K1 := h_ (fun w' hr' => kidsN n ih v w' ⟨#[101]⟩ (by decide) (by decide) hr')
 have hk1 : ltr ⟨#[101]⟩ = [101] := by decide
 rw [hk1] at K1
 rw [hB] at K1
 have HR := h_ hr
 obtain ⟨a0, c0, rfl⟩ := RdK_slice hr
 unfold ndV at K1 ⊢
 rw [hk] at K1 ⊢
 clear hr ht hA hB ih
 generalize n.text = xt at *
 go_enter Tryz.func50, Tryz.ntmps50
 go_wp2_with (first | (go_at_call 46; refine (u_ K1 _ (RdK_later (bal (brf w) _) (u_ HR))).mono ?_; rintro e v1 ⟨rfl, hb1⟩))
 go_ret
 exact ⟨rfl, btr (bal (brf w) _) hb1⟩
theorem ex43t (n : Nd) (ih : ∀ x ∈ n.kids, IsC x) (v : Value) (w : World) (ht : n.text.size ≤ maxLen) (hr : RdK w n.kids v) (hk : n.kind = 43) (hA : (n.text.size == 0) = true) (hB : (kidsB n.kids [101]) = true) :
   CB 50 #[ndV n v] w (.bool true) := by
 have hn : n.text.toList.isEmpty = true := by rw [toListL, ← L_emp]; exact hA
 have K1 := h_ (fun w' hr' => kidsN n ih v w' ⟨#[101]⟩ (by decide) (by decide) hr')
 have hk1 : ltr ⟨#[101]⟩ = [101] := by decide
 rw [hk1] at K1
 rw [hB] at K1
 have HR := h_ hr
 obtain ⟨a0, c0, rfl⟩ := RdK_slice hr
 unfold ndV at K1 ⊢
 rw [hk] at K1 ⊢
 clear hr ht hA hB ih
 generalize n.text = xt at *
 go_enter Tryz.func50, Tryz.ntmps50
 go_wp2_with (first | (go_at_call 46; refine (u_ K1 _ (RdK_later (bal (brf w) _) (u_ HR))).mono ?_; rintro e v1 ⟨rfl, hb1⟩))
 go_ret
 exact ⟨rfl, btr (bal (brf w) _) hb1⟩
theorem ex43 (n : Nd) (ih : ∀ x ∈ n.kids, IsC x) (v : Value) (w : World) (ht : n.text.size ≤ maxLen) (hr : RdK w n.kids v) (hk : n.kind = 43) :
   CB 50 #[ndV n v] w (.bool ((n.text.size == 0) && kidsB n.kids [101])) := by
 cases hA : (n.text.size == 0) with
 | false => exact ex43n n ih v w ht hr hk hA
 | true =>
   cases hB : (kidsB n.kids [101]) with
   | false => exact ex43f n ih v w ht hr hk hA hB
   | true => exact ex43t n ih v w ht hr hk hA hB
theorem ex44n (n : Nd) (ih : ∀ x ∈ n.kids, IsC x) (v : Value) (w : World) (ht : n.text.size ≤ maxLen) (hr : RdK w n.kids v) (hk : n.kind = 44) (hA : (n.text.size == 0) = false) :
   CB 50 #[ndV n v] w (.bool false) := by
 have hn : n.text.toList.isEmpty = false := by rw [toListL, ← L_emp]; exact hA
 obtain ⟨a0, c0, rfl⟩ := RdK_slice hr
 unfold ndV
 rw [hk]
 clear hr ht hA ih
 generalize n.text = xt at *
 go_enter Tryz.func50, Tryz.ntmps50
 go_wp2
 go_ret
 exact ⟨rfl, bal (brf w) _⟩
theorem ex44f (n : Nd) (ih : ∀ x ∈ n.kids, IsC x) (v : Value) (w : World) (ht : n.text.size ≤ maxLen) (hr : RdK w n.kids v) (hk : n.kind = 44) (hA : (n.text.size == 0) = true) (hB : (kidsB n.kids [101]) = false) :
   CB 50 #[ndV n v] w (.bool false) := by
 have hn : n.text.toList.isEmpty = true := by rw [toListL, ← L_emp]; exact hA
 have K1 := h_ (fun w' hr' => kidsN n ih v w' ⟨#[101]⟩ (by decide) (by decide) hr')
 have hk1 : ltr ⟨#[101]⟩ = [101] := by decide
 rw [hk1] at K1
 rw [hB] at K1
 have HR := h_ hr
 obtain ⟨a0, c0, rfl⟩ := RdK_slice hr
 unfold ndV at K1 ⊢
 rw [hk] at K1 ⊢
 clear hr ht hA hB ih
 generalize n.text = xt at *
 go_enter Tryz.func50, Tryz.ntmps50
 go_wp2_with (first | (go_at_call 46; refine (u_ K1 _ (RdK_later (bal (brf w) _) (u_ HR))).mono ?_; rintro e v1 ⟨rfl, hb1⟩))
 go_ret
 exact ⟨rfl, btr (bal (brf w) _) hb1⟩
theorem ex44t (n : Nd) (ih : ∀ x ∈ n.kids, IsC x) (v : Value) (w : World) (ht : n.text.size ≤ maxLen) (hr : RdK w n.kids v) (hk : n.kind = 44) (hA : (n.text.size == 0) = true) (hB : (kidsB n.kids [101]) = true) :
   CB 50 #[ndV n v] w (.bool true) := by
 have hn : n.text.toList.isEmpty = true := by rw [toListL, ← L_emp]; exact hA
 have K1 := h_ (fun w' hr' => kidsN n ih v w' ⟨#[101]⟩ (by decide) (by decide) hr')
 have hk1 : ltr ⟨#[101]⟩ = [101] := by decide
 rw [hk1] at K1
 rw [hB] at K1
 have HR := h_ hr
 obtain ⟨a0, c0, rfl⟩ := RdK_slice hr
 unfold ndV at K1 ⊢
 rw [hk] at K1 ⊢
 clear hr ht hA hB ih
 generalize n.text = xt at *
 go_enter Tryz.func50, Tryz.ntmps50
 go_wp2_with (first | (go_at_call 46; refine (u_ K1 _ (RdK_later (bal (brf w) _) (u_ HR))).mono ?_; rintro e v1 ⟨rfl, hb1⟩))
 go_ret
 exact ⟨rfl, btr (bal (brf w) _) hb1⟩
theorem ex44 (n : Nd) (ih : ∀ x ∈ n.kids, IsC x) (v : Value) (w : World) (ht : n.text.size ≤ maxLen) (hr : RdK w n.kids v) (hk : n.kind = 44) :
   CB 50 #[ndV n v] w (.bool ((n.text.size == 0) && kidsB n.kids [101])) := by
 cases hA : (n.text.size == 0) with
 | false => exact ex44n n ih v w ht hr hk hA
 | true =>
   cases hB : (kidsB n.kids [101]) with
   | false => exact ex44f n ih v w ht hr hk hA hB
   | true => exact ex44t n ih v w ht hr hk hA hB
theorem ex45n (n : Nd) (ih : ∀ x ∈ n.kids, IsC x) (v : Value) (w : World) (ht : n.text.size ≤ maxLen) (hr : RdK w n.kids v) (hk : n.kind = 45) (hA : (unL.contains (L n.text)) = false) :
   CB 50 #[ndV n v] w (.bool false) := by
 have FR := h_ (fun w' => sUnary n.text w')
 rw [hA] at FR
 obtain ⟨a0, c0, rfl⟩ := RdK_slice hr
 unfold ndV
 rw [hk]
 clear hr ht hA ih
 generalize n.text = xt at *
 go_enter Tryz.func50, Tryz.ntmps50
 go_wp2_with (first | (go_at_call 62; refine (u_ FR _).mono ?_; rintro e w' ⟨rfl, rfl⟩))
 go_ret
 exact ⟨rfl, bal (brf w) _⟩
theorem ex45f (n : Nd) (ih : ∀ x ∈ n.kids, IsC x) (v : Value) (w : World) (ht : n.text.size ≤ maxLen) (hr : RdK w n.kids v) (hk : n.kind = 45) (hA : (unL.contains (L n.text)) = true) (hB : (kidsB n.kids [101]) = false) :
   CB 50 #[ndV n v] w (.bool false) := by
 have FR := h_ (fun w' => sUnary n.text w')
 rw [hA] at FR
 have K1 := h_ (fun w' hr' => kidsN n ih v w' ⟨#[101]⟩ (by decide) (by decide) hr')
 have hk1 : ltr ⟨#[101]⟩ = [101] := by decide
 rw [hk1] at K1
 rw [hB] at K1
 have HR := h_ hr
 obtain ⟨a0, c0, rfl⟩ := RdK_slice hr
 unfold ndV at K1 ⊢
 rw [hk] at K1 ⊢
 clear hr ht hA hB ih
 generalize n.text = xt at *
 go_enter Tryz.func50, Tryz.ntmps50
 go_wp2_with (first | (go_at_call 62; refine (u_ FR _).mono ?_; rintro e w' ⟨rfl, rfl⟩) | (go_at_call 46; refine (u_ K1 _ (RdK_later (bal (brf w) _) (u_ HR))).mono ?_; rintro e v1 ⟨rfl, hb1⟩))
 go_ret
 exact ⟨rfl, btr (bal (brf w) _) hb1⟩
theorem ex45t (n : Nd) (ih : ∀ x ∈ n.kids, IsC x) (v : Value) (w : World) (ht : n.text.size ≤ maxLen) (hr : RdK w n.kids v) (hk : n.kind = 45) (hA : (unL.contains (L n.text)) = true) (hB : (kidsB n.kids [101]) = true) :
   CB 50 #[ndV n v] w (.bool true) := by
 have FR := h_ (fun w' => sUnary n.text w')
 rw [hA] at FR
 have K1 := h_ (fun w' hr' => kidsN n ih v w' ⟨#[101]⟩ (by decide) (by decide) hr')
 have hk1 : ltr ⟨#[101]⟩ = [101] := by decide
 rw [hk1] at K1
 rw [hB] at K1
 have HR := h_ hr
 obtain ⟨a0, c0, rfl⟩ := RdK_slice hr
 unfold ndV at K1 ⊢
 rw [hk] at K1 ⊢
 clear hr ht hA hB ih
 generalize n.text = xt at *
 go_enter Tryz.func50, Tryz.ntmps50
 go_wp2_with (first | (go_at_call 62; refine (u_ FR _).mono ?_; rintro e w' ⟨rfl, rfl⟩) | (go_at_call 46; refine (u_ K1 _ (RdK_later (bal (brf w) _) (u_ HR))).mono ?_; rintro e v1 ⟨rfl, hb1⟩))
 go_ret
 exact ⟨rfl, btr (bal (brf w) _) hb1⟩
theorem ex45 (n : Nd) (ih : ∀ x ∈ n.kids, IsC x) (v : Value) (w : World) (ht : n.text.size ≤ maxLen) (hr : RdK w n.kids v) (hk : n.kind = 45) :
   CB 50 #[ndV n v] w (.bool ((unL.contains (L n.text)) && kidsB n.kids [101])) := by
 cases hA : (unL.contains (L n.text)) with
 | false => exact ex45n n ih v w ht hr hk hA
 | true =>
   cases hB : (kidsB n.kids [101]) with
   | false => exact ex45f n ih v w ht hr hk hA hB
   | true => exact ex45t n ih v w ht hr hk hA hB
theorem ex47n (n : Nd) (ih : ∀ x ∈ n.kids, IsC x) (v : Value) (w : World) (ht : n.text.size ≤ maxLen) (hr : RdK w n.kids v) (hk : n.kind = 47) (hA : (n.text.size == 0) = false) :
   CB 50 #[ndV n v] w (.bool false) := by
 have hn : n.text.toList.isEmpty = false := by rw [toListL, ← L_emp]; exact hA
 obtain ⟨a0, c0, rfl⟩ := RdK_slice hr
 unfold ndV
 rw [hk]
 clear hr ht hA ih
 generalize n.text = xt at *
 go_enter Tryz.func50, Tryz.ntmps50
 go_wp2
 go_ret
 exact ⟨rfl, bal (brf w) _⟩
theorem ex47f (n : Nd) (ih : ∀ x ∈ n.kids, IsC x) (v : Value) (w : World) (ht : n.text.size ≤ maxLen) (hr : RdK w n.kids v) (hk : n.kind = 47) (hA : (n.text.size == 0) = true) (hB : (kidsB n.kids [101, 101, 101]) = false) :
   CB 50 #[ndV n v] w (.bool false) := by
 have hn : n.text.toList.isEmpty = true := by rw [toListL, ← L_emp]; exact hA
 have K1 := h_ (fun w' hr' => kidsN n ih v w' ⟨#[101, 101, 101]⟩ (by decide) (by decide) hr')
 have hk1 : ltr ⟨#[101, 101, 101]⟩ = [101, 101, 101] := by decide
 rw [hk1] at K1
 rw [hB] at K1
 have HR := h_ hr
 obtain ⟨a0, c0, rfl⟩ := RdK_slice hr
 unfold ndV at K1 ⊢
 rw [hk] at K1 ⊢
 clear hr ht hA hB ih
 generalize n.text = xt at *
 go_enter Tryz.func50, Tryz.ntmps50
 go_wp2_with (first | (go_at_call 46; refine (u_ K1 _ (RdK_later (bal (brf w) _) (u_ HR))).mono ?_; rintro e v1 ⟨rfl, hb1⟩))
 go_ret
 exact ⟨rfl, btr (bal (brf w) _) hb1⟩
theorem ex47t (n : Nd) (ih : ∀ x ∈ n.kids, IsC x) (v : Value) (w : World) (ht : n.text.size ≤ maxLen) (hr : RdK w n.kids v) (hk : n.kind = 47) (hA : (n.text.size == 0) = true) (hB : (kidsB n.kids [101, 101, 101]) = true) :
   CB 50 #[ndV n v] w (.bool true) := by
 have hn : n.text.toList.isEmpty = true := by rw [toListL, ← L_emp]; exact hA
 have K1 := h_ (fun w' hr' => kidsN n ih v w' ⟨#[101, 101, 101]⟩ (by decide) (by decide) hr')
 have hk1 : ltr ⟨#[101, 101, 101]⟩ = [101, 101, 101] := by decide
 rw [hk1] at K1
 rw [hB] at K1
 have HR := h_ hr
 obtain ⟨a0, c0, rfl⟩ := RdK_slice hr
 unfold ndV at K1 ⊢
 rw [hk] at K1 ⊢
 clear hr ht hA hB ih
 generalize n.text = xt at *
 go_enter Tryz.func50, Tryz.ntmps50
 go_wp2_with (first | (go_at_call 46; refine (u_ K1 _ (RdK_later (bal (brf w) _) (u_ HR))).mono ?_; rintro e v1 ⟨rfl, hb1⟩))
 go_ret
 exact ⟨rfl, btr (bal (brf w) _) hb1⟩
theorem ex47 (n : Nd) (ih : ∀ x ∈ n.kids, IsC x) (v : Value) (w : World) (ht : n.text.size ≤ maxLen) (hr : RdK w n.kids v) (hk : n.kind = 47) :
   CB 50 #[ndV n v] w (.bool ((n.text.size == 0) && kidsB n.kids [101, 101, 101])) := by
 cases hA : (n.text.size == 0) with
 | false => exact ex47n n ih v w ht hr hk hA
 | true =>
   cases hB : (kidsB n.kids [101, 101, 101]) with
   | false => exact ex47f n ih v w ht hr hk hA hB
   | true => exact ex47t n ih v w ht hr hk hA hB
theorem ex40n (n : Nd) (ih : ∀ x ∈ n.kids, IsC x) (v : Value) (w : World) (ht : n.text.size ≤ maxLen) (hr : RdK w n.kids v) (hk : n.kind = 40) (hA : (freeB n.text) = false) :
   CB 50 #[ndV n v] w (.bool false) := by
 have FR := h_ (fun w' => sFree n.text w' ht)
 rw [hA] at FR
 obtain ⟨a0, c0, rfl⟩ := RdK_slice hr
 unfold ndV
 rw [hk]
 clear hr ht hA ih
 generalize n.text = xt at *
 go_enter Tryz.func50, Tryz.ntmps50
 go_wp2_with (first | (go_at_call 47; refine (u_ FR _).mono ?_; rintro e w' ⟨rfl, rfl⟩))
 go_ret
 exact ⟨rfl, bal (brf w) _⟩
theorem ex40f (n : Nd) (ih : ∀ x ∈ n.kids, IsC x) (v : Value) (w : World) (ht : n.text.size ≤ maxLen) (hr : RdK w n.kids v) (hk : n.kind = 40) (hA : (freeB n.text) = true) (hB : (n.kids.all (okIs 101)) = false) :
   CB 50 #[ndV n v] w (.bool false) := by
 have FR := h_ (fun w' => sFree n.text w' ht)
 rw [hA] at FR
 have K1 := h_ (fun w' hr' => allN n ih v w' 0 101 (by decide) (by decide) hr')
 rw [List.drop_zero] at K1
 rw [hB] at K1
 have HR := h_ hr
 obtain ⟨a0, c0, rfl⟩ := RdK_slice hr
 unfold ndV at K1 ⊢
 rw [hk] at K1 ⊢
 clear hr ht hA hB ih
 generalize n.text = xt at *
 go_enter Tryz.func50, Tryz.ntmps50
 go_wp2_with (first | (go_at_call 47; refine (u_ FR _).mono ?_; rintro e w' ⟨rfl, rfl⟩) | (go_at_call 19; refine (u_ K1 _ (RdK_later (bal (brf w) _) (u_ HR))).mono ?_; rintro e v1 ⟨rfl, hb1⟩))
 go_ret
 exact ⟨rfl, btr (bal (brf w) _) hb1⟩
theorem ex40t (n : Nd) (ih : ∀ x ∈ n.kids, IsC x) (v : Value) (w : World) (ht : n.text.size ≤ maxLen) (hr : RdK w n.kids v) (hk : n.kind = 40) (hA : (freeB n.text) = true) (hB : (n.kids.all (okIs 101)) = true) :
   CB 50 #[ndV n v] w (.bool true) := by
 have FR := h_ (fun w' => sFree n.text w' ht)
 rw [hA] at FR
 have K1 := h_ (fun w' hr' => allN n ih v w' 0 101 (by decide) (by decide) hr')
 rw [List.drop_zero] at K1
 rw [hB] at K1
 have HR := h_ hr
 obtain ⟨a0, c0, rfl⟩ := RdK_slice hr
 unfold ndV at K1 ⊢
 rw [hk] at K1 ⊢
 clear hr ht hA hB ih
 generalize n.text = xt at *
 go_enter Tryz.func50, Tryz.ntmps50
 go_wp2_with (first | (go_at_call 47; refine (u_ FR _).mono ?_; rintro e w' ⟨rfl, rfl⟩) | (go_at_call 19; refine (u_ K1 _ (RdK_later (bal (brf w) _) (u_ HR))).mono ?_; rintro e v1 ⟨rfl, hb1⟩))
 go_ret
 exact ⟨rfl, btr (bal (brf w) _) hb1⟩
theorem ex40 (n : Nd) (ih : ∀ x ∈ n.kids, IsC x) (v : Value) (w : World) (ht : n.text.size ≤ maxLen) (hr : RdK w n.kids v) (hk : n.kind = 40) :
   CB 50 #[ndV n v] w (.bool ((freeB n.text) && n.kids.all (okIs 101))) := by
 cases hA : (freeB n.text) with
 | false => exact ex40n n ih v w ht hr hk hA
 | true =>
   cases hB : (n.kids.all (okIs 101)) with
   | false => exact ex40f n ih v w ht hr hk hA hB
   | true => exact ex40t n ih v w ht hr hk hA hB
theorem ex46n (n : Nd) (ih : ∀ x ∈ n.kids, IsC x) (v : Value) (w : World) (ht : n.text.size ≤ maxLen) (hr : RdK w n.kids v) (hk : n.kind = 46) (hA : (binL.contains (L n.text)) = false) :
   CB 50 #[ndV n v] w (.bool false) := by
 have FR := h_ (fun w' => sGroup n.text w')
 rw [hA] at FR
 obtain ⟨a0, c0, rfl⟩ := RdK_slice hr
 unfold ndV
 rw [hk]
 clear hr ht hA ih
 generalize n.text = xt at *
 go_enter Tryz.func50, Tryz.ntmps50
 go_wp2_with (first | (go_at_call 63; refine (u_ FR _).mono ?_; rintro e w' ⟨⟨g, rfl, hg⟩, rfl⟩; first | (have hg' := of_decide_eq_true hg) | (have hg' := of_decide_eq_false hg)))
 go_ret
 exact ⟨rfl, bal (brf w) _⟩
theorem ex46f (n : Nd) (ih : ∀ x ∈ n.kids, IsC x) (v : Value) (w : World) (ht : n.text.size ≤ maxLen) (hr : RdK w n.kids v) (hk : n.kind = 46) (hA : (binL.contains (L n.text)) = true) (hB : (kidsB n.kids [101, 101]) = false) :
   CB 50 #[ndV n v] w (.bool false) := by
 have FR := h_ (fun w' => sGroup n.text w')
 rw [hA] at FR
 have K1 := h_ (fun w' hr' => kidsN n ih v w' ⟨#[101, 101]⟩ (by decide) (by decide) hr')
 have hk1 : ltr ⟨#[101, 101]⟩ = [101, 101] := by decide
 rw [hk1] at K1
 rw [hB] at K1
 have HR := h_ hr
 obtain ⟨a0, c0, rfl⟩ := RdK_slice hr
 unfold ndV at K1 ⊢
 rw [hk] at K1 ⊢
 clear hr ht hA hB ih
 generalize n.text = xt at *
 go_enter Tryz.func50, Tryz.ntmps50
 go_wp2_with (first | (go_at_call 63; refine (u_ FR _).mono ?_; rintro e w' ⟨⟨g, rfl, hg⟩, rfl⟩; first | (have hg' := of_decide_eq_true hg) | (have hg' := of_decide_eq_false hg)) | (go_at_call 46; refine (u_ K1 _ (RdK_later (bal (brf w) _) (u_ HR))).mono ?_; rintro e v1 ⟨rfl, hb1⟩))
 go_ret
 exact ⟨rfl, btr (bal (brf w) _) hb1⟩
theorem ex46t (n : Nd) (ih : ∀ x ∈ n.kids, IsC x) (v : Value) (w : World) (ht : n.text.size ≤ maxLen) (hr : RdK w n.kids v) (hk : n.kind = 46) (hA : (binL.contains (L n.text)) = true) (hB : (kidsB n.kids [101, 101]) = true) :
   CB 50 #[ndV n v] w (.bool true) := by
 have FR := h_ (fun w' => sGroup n.text w')
 rw [hA] at FR
 have K1 := h_ (fun w' hr' => kidsN n ih v w' ⟨#[101, 101]⟩ (by decide) (by decide) hr')
 have hk1 : ltr ⟨#[101, 101]⟩ = [101, 101] := by decide
 rw [hk1] at K1
 rw [hB] at K1
 have HR := h_ hr
 obtain ⟨a0, c0, rfl⟩ := RdK_slice hr
 unfold ndV at K1 ⊢
 rw [hk] at K1 ⊢
 clear hr ht hA hB ih
 generalize n.text = xt at *
 go_enter Tryz.func50, Tryz.ntmps50
 go_wp2_with (first | (go_at_call 63; refine (u_ FR _).mono ?_; rintro e w' ⟨⟨g, rfl, hg⟩, rfl⟩; first | (have hg' := of_decide_eq_true hg) | (have hg' := of_decide_eq_false hg)) | (go_at_call 46; refine (u_ K1 _ (RdK_later (bal (brf w) _) (u_ HR))).mono ?_; rintro e v1 ⟨rfl, hb1⟩))
 go_ret
 exact ⟨rfl, btr (bal (brf w) _) hb1⟩
theorem ex46 (n : Nd) (ih : ∀ x ∈ n.kids, IsC x) (v : Value) (w : World) (ht : n.text.size ≤ maxLen) (hr : RdK w n.kids v) (hk : n.kind = 46) :
   CB 50 #[ndV n v] w (.bool ((binL.contains (L n.text)) && kidsB n.kids [101, 101])) := by
 cases hA : (binL.contains (L n.text)) with
 | false => exact ex46n n ih v w ht hr hk hA
 | true =>
   cases hB : (kidsB n.kids [101, 101]) with
   | false => exact ex46f n ih v w ht hr hk hA hB
   | true => exact ex46t n ih v w ht hr hk hA hB
theorem st27n (n : Nd) (ih : ∀ x ∈ n.kids, IsC x) (v : Value) (w : World) (ht : n.text.size ≤ maxLen) (hr : RdK w n.kids v) (hk : n.kind = 27) (hA : (n.text.size == 0) = false) :
   CB 49 #[ndV n v] w (.bool false) := by
 have hn : n.text.toList.isEmpty = false := by rw [toListL, ← L_emp]; exact hA
 obtain ⟨a0, c0, rfl⟩ := RdK_slice hr
 unfold ndV
 rw [hk]
 clear hr ht hA ih
 generalize n.text = xt at *
 go_enter Tryz.func49, Tryz.ntmps49
 go_wp2
 go_ret
 exact ⟨rfl, bal (brf w) _⟩
theorem st27f (n : Nd) (ih : ∀ x ∈ n.kids, IsC x) (v : Value) (w : World) (ht : n.text.size ≤ maxLen) (hr : RdK w n.kids v) (hk : n.kind = 27) (hA : (n.text.size == 0) = true) (hB : (kidsB n.kids [84, 101]) = false) :
   CB 49 #[ndV n v] w (.bool false) := by
 have hn : n.text.toList.isEmpty = true := by rw [toListL, ← L_emp]; exact hA
 have K1 := h_ (fun w' hr' => kidsN n ih v w' ⟨#[84, 101]⟩ (by decide) (by decide) hr')
 have hk1 : ltr ⟨#[84, 101]⟩ = [84, 101] := by decide
 rw [hk1] at K1
 rw [hB] at K1
 have HR := h_ hr
 obtain ⟨a0, c0, rfl⟩ := RdK_slice hr
 unfold ndV at K1 ⊢
 rw [hk] at K1 ⊢
 clear hr ht hA hB ih
 generalize n.text = xt at *
 go_enter Tryz.func49, Tryz.ntmps49
 go_wp2_with (first | (go_at_call 46; refine (u_ K1 _ (RdK_later (bal (brf w) _) (u_ HR))).mono ?_; rintro e v1 ⟨rfl, hb1⟩))
 go_ret
 exact ⟨rfl, btr (bal (brf w) _) hb1⟩
theorem st27t (n : Nd) (ih : ∀ x ∈ n.kids, IsC x) (v : Value) (w : World) (ht : n.text.size ≤ maxLen) (hr : RdK w n.kids v) (hk : n.kind = 27) (hA : (n.text.size == 0) = true) (hB : (kidsB n.kids [84, 101]) = true) :
   CB 49 #[ndV n v] w (.bool true) := by
 have hn : n.text.toList.isEmpty = true := by rw [toListL, ← L_emp]; exact hA
 have K1 := h_ (fun w' hr' => kidsN n ih v w' ⟨#[84, 101]⟩ (by decide) (by decide) hr')
 have hk1 : ltr ⟨#[84, 101]⟩ = [84, 101] := by decide
 rw [hk1] at K1
 rw [hB] at K1
 have HR := h_ hr
 obtain ⟨a0, c0, rfl⟩ := RdK_slice hr
 unfold ndV at K1 ⊢
 rw [hk] at K1 ⊢
 clear hr ht hA hB ih
 generalize n.text = xt at *
 go_enter Tryz.func49, Tryz.ntmps49
 go_wp2_with (first | (go_at_call 46; refine (u_ K1 _ (RdK_later (bal (brf w) _) (u_ HR))).mono ?_; rintro e v1 ⟨rfl, hb1⟩))
 go_ret
 exact ⟨rfl, btr (bal (brf w) _) hb1⟩
theorem st27 (n : Nd) (ih : ∀ x ∈ n.kids, IsC x) (v : Value) (w : World) (ht : n.text.size ≤ maxLen) (hr : RdK w n.kids v) (hk : n.kind = 27) :
   CB 49 #[ndV n v] w (.bool ((n.text.size == 0) && kidsB n.kids [84, 101])) := by
 cases hA : (n.text.size == 0) with
 | false => exact st27n n ih v w ht hr hk hA
 | true =>
   cases hB : (kidsB n.kids [84, 101]) with
   | false => exact st27f n ih v w ht hr hk hA hB
   | true => exact st27t n ih v w ht hr hk hA hB
theorem st28n (n : Nd) (ih : ∀ x ∈ n.kids, IsC x) (v : Value) (w : World) (ht : n.text.size ≤ maxLen) (hr : RdK w n.kids v) (hk : n.kind = 28) (hA : (n.text.size == 0) = false) :
   CB 49 #[ndV n v] w (.bool false) := by
 have hn : n.text.toList.isEmpty = false := by rw [toListL, ← L_emp]; exact hA
 obtain ⟨a0, c0, rfl⟩ := RdK_slice hr
 unfold ndV
 rw [hk]
 clear hr ht hA ih
 generalize n.text = xt at *
 go_enter Tryz.func49, Tryz.ntmps49
 go_wp2
 go_ret
 exact ⟨rfl, bal (brf w) _⟩
theorem st28f (n : Nd) (ih : ∀ x ∈ n.kids, IsC x) (v : Value) (w : World) (ht : n.text.size ≤ maxLen) (hr : RdK w n.kids v) (hk : n.kind = 28) (hA : (n.text.size == 0) = true) (hB : (kidsB n.kids [84, 101]) = false) :
   CB 49 #[ndV n v] w (.bool false) := by
 have hn : n.text.toList.isEmpty = true := by rw [toListL, ← L_emp]; exact hA
 have K1 := h_ (fun w' hr' => kidsN n ih v w' ⟨#[84, 101]⟩ (by decide) (by decide) hr')
 have hk1 : ltr ⟨#[84, 101]⟩ = [84, 101] := by decide
 rw [hk1] at K1
 rw [hB] at K1
 have HR := h_ hr
 obtain ⟨a0, c0, rfl⟩ := RdK_slice hr
 unfold ndV at K1 ⊢
 rw [hk] at K1 ⊢
 clear hr ht hA hB ih
 generalize n.text = xt at *
 go_enter Tryz.func49, Tryz.ntmps49
 go_wp2_with (first | (go_at_call 46; refine (u_ K1 _ (RdK_later (bal (brf w) _) (u_ HR))).mono ?_; rintro e v1 ⟨rfl, hb1⟩))
 go_ret
 exact ⟨rfl, btr (bal (brf w) _) hb1⟩
theorem st28t (n : Nd) (ih : ∀ x ∈ n.kids, IsC x) (v : Value) (w : World) (ht : n.text.size ≤ maxLen) (hr : RdK w n.kids v) (hk : n.kind = 28) (hA : (n.text.size == 0) = true) (hB : (kidsB n.kids [84, 101]) = true) :
   CB 49 #[ndV n v] w (.bool true) := by
 have hn : n.text.toList.isEmpty = true := by rw [toListL, ← L_emp]; exact hA
 have K1 := h_ (fun w' hr' => kidsN n ih v w' ⟨#[84, 101]⟩ (by decide) (by decide) hr')
 have hk1 : ltr ⟨#[84, 101]⟩ = [84, 101] := by decide
 rw [hk1] at K1
 rw [hB] at K1
 have HR := h_ hr
 obtain ⟨a0, c0, rfl⟩ := RdK_slice hr
 unfold ndV at K1 ⊢
 rw [hk] at K1 ⊢
 clear hr ht hA hB ih
 generalize n.text = xt at *
 go_enter Tryz.func49, Tryz.ntmps49
 go_wp2_with (first | (go_at_call 46; refine (u_ K1 _ (RdK_later (bal (brf w) _) (u_ HR))).mono ?_; rintro e v1 ⟨rfl, hb1⟩))
 go_ret
 exact ⟨rfl, btr (bal (brf w) _) hb1⟩
theorem st28 (n : Nd) (ih : ∀ x ∈ n.kids, IsC x) (v : Value) (w : World) (ht : n.text.size ≤ maxLen) (hr : RdK w n.kids v) (hk : n.kind = 28) :
   CB 49 #[ndV n v] w (.bool ((n.text.size == 0) && kidsB n.kids [84, 101])) := by
 cases hA : (n.text.size == 0) with
 | false => exact st28n n ih v w ht hr hk hA
 | true =>
   cases hB : (kidsB n.kids [84, 101]) with
   | false => exact st28f n ih v w ht hr hk hA hB
   | true => exact st28t n ih v w ht hr hk hA hB
theorem st33n (n : Nd) (ih : ∀ x ∈ n.kids, IsC x) (v : Value) (w : World) (ht : n.text.size ≤ maxLen) (hr : RdK w n.kids v) (hk : n.kind = 33) (hA : (freeB n.text) = false) :
   CB 49 #[ndV n v] w (.bool false) := by
 have FR := h_ (fun w' => sFree n.text w' ht)
 rw [hA] at FR
 obtain ⟨a0, c0, rfl⟩ := RdK_slice hr
 unfold ndV
 rw [hk]
 clear hr ht hA ih
 generalize n.text = xt at *
 go_enter Tryz.func49, Tryz.ntmps49
 go_wp2_with (first | (go_at_call 47; refine (u_ FR _).mono ?_; rintro e w' ⟨rfl, rfl⟩))
 go_ret
 exact ⟨rfl, bal (brf w) _⟩
theorem st33f (n : Nd) (ih : ∀ x ∈ n.kids, IsC x) (v : Value) (w : World) (ht : n.text.size ≤ maxLen) (hr : RdK w n.kids v) (hk : n.kind = 33) (hA : (freeB n.text) = true) (hB : (kidsB n.kids [101, 101, 98]) = false) :
   CB 49 #[ndV n v] w (.bool false) := by
 have FR := h_ (fun w' => sFree n.text w' ht)
 rw [hA] at FR
 have K1 := h_ (fun w' hr' => kidsN n ih v w' ⟨#[101, 101, 98]⟩ (by decide) (by decide) hr')
 have hk1 : ltr ⟨#[101, 101, 98]⟩ = [101, 101, 98] := by decide
 rw [hk1] at K1
 rw [hB] at K1
 have HR := h_ hr
 obtain ⟨a0, c0, rfl⟩ := RdK_slice hr
 unfold ndV at K1 ⊢
 rw [hk] at K1 ⊢
 clear hr ht hA hB ih
 generalize n.text = xt at *
 go_enter Tryz.func49, Tryz.ntmps49
 go_wp2_with (first | (go_at_call 47; refine (u_ FR _).mono ?_; rintro e w' ⟨rfl, rfl⟩) | (go_at_call 46; refine (u_ K1 _ (RdK_later (bal (brf w) _) (u_ HR))).mono ?_; rintro e v1 ⟨rfl, hb1⟩))
 go_ret
 exact ⟨rfl, btr (bal (brf w) _) hb1⟩
theorem st33t (n : Nd) (ih : ∀ x ∈ n.kids, IsC x) (v : Value) (w : World) (ht : n.text.size ≤ maxLen) (hr : RdK w n.kids v) (hk : n.kind = 33) (hA : (freeB n.text) = true) (hB : (kidsB n.kids [101, 101, 98]) = true) :
   CB 49 #[ndV n v] w (.bool true) := by
 have FR := h_ (fun w' => sFree n.text w' ht)
 rw [hA] at FR
 have K1 := h_ (fun w' hr' => kidsN n ih v w' ⟨#[101, 101, 98]⟩ (by decide) (by decide) hr')
 have hk1 : ltr ⟨#[101, 101, 98]⟩ = [101, 101, 98] := by decide
 rw [hk1] at K1
 rw [hB] at K1
 have HR := h_ hr
 obtain ⟨a0, c0, rfl⟩ := RdK_slice hr
 unfold ndV at K1 ⊢
 rw [hk] at K1 ⊢
 clear hr ht hA hB ih
 generalize n.text = xt at *
 go_enter Tryz.func49, Tryz.ntmps49
 go_wp2_with (first | (go_at_call 47; refine (u_ FR _).mono ?_; rintro e w' ⟨rfl, rfl⟩) | (go_at_call 46; refine (u_ K1 _ (RdK_later (bal (brf w) _) (u_ HR))).mono ?_; rintro e v1 ⟨rfl, hb1⟩))
 go_ret
 exact ⟨rfl, btr (bal (brf w) _) hb1⟩
theorem st33 (n : Nd) (ih : ∀ x ∈ n.kids, IsC x) (v : Value) (w : World) (ht : n.text.size ≤ maxLen) (hr : RdK w n.kids v) (hk : n.kind = 33) :
   CB 49 #[ndV n v] w (.bool ((freeB n.text) && kidsB n.kids [101, 101, 98])) := by
 cases hA : (freeB n.text) with
 | false => exact st33n n ih v w ht hr hk hA
 | true =>
   cases hB : (kidsB n.kids [101, 101, 98]) with
   | false => exact st33f n ih v w ht hr hk hA hB
   | true => exact st33t n ih v w ht hr hk hA hB
theorem st34n (n : Nd) (ih : ∀ x ∈ n.kids, IsC x) (v : Value) (w : World) (ht : n.text.size ≤ maxLen) (hr : RdK w n.kids v) (hk : n.kind = 34) (hA : (n.text.size == 0) = false) :
   CB 49 #[ndV n v] w (.bool false) := by
 have hn : n.text.toList.isEmpty = false := by rw [toListL, ← L_emp]; exact hA
 obtain ⟨a0, c0, rfl⟩ := RdK_slice hr
 unfold ndV
 rw [hk]
 clear hr ht hA ih
 generalize n.text = xt at *
 go_enter Tryz.func49, Tryz.ntmps49
 go_wp2
 go_ret
 exact ⟨rfl, bal (brf w) _⟩
theorem st34f (n : Nd) (ih : ∀ x ∈ n.kids, IsC x) (v : Value) (w : World) (ht : n.text.size ≤ maxLen) (hr : RdK w n.kids v) (hk : n.kind = 34) (hA : (n.text.size == 0) = true) (hB : (kidsB n.kids [101]) = false) :
   CB 49 #[ndV n v] w (.bool false) := by
 have hn : n.text.toList.isEmpty = true := by rw [toListL, ← L_emp]; exact hA
 have K1 := h_ (fun w' hr' => kidsN n ih v w' ⟨#[101]⟩ (by decide) (by decide) hr')
 have hk1 : ltr ⟨#[101]⟩ = [101] := by decide
 rw [hk1] at K1
 rw [hB] at K1
 have HR := h_ hr
 obtain ⟨a0, c0, rfl⟩ := RdK_slice hr
 unfold ndV at K1 ⊢
 rw [hk] at K1 ⊢
 clear hr ht hA hB ih
 generalize n.text = xt at *
 go_enter Tryz.func49, Tryz.ntmps49
 go_wp2_with (first | (go_at_call 46; refine (u_ K1 _ (RdK_later (bal (brf w) _) (u_ HR))).mono ?_; rintro e v1 ⟨rfl, hb1⟩))
 go_ret
 exact ⟨rfl, btr (bal (brf w) _) hb1⟩
theorem st34t (n : Nd) (ih : ∀ x ∈ n.kids, IsC x) (v : Value) (w : World) (ht : n.text.size ≤ maxLen) (hr : RdK w n.kids v) (hk : n.kind = 34) (hA : (n.text.size == 0) = true) (hB : (kidsB n.kids [101]) = true) :
   CB 49 #[ndV n v] w (.bool true) := by
 have hn : n.text.toList.isEmpty = true := by rw [toListL, ← L_emp]; exact hA
 have K1 := h_ (fun w' hr' => kidsN n ih v w' ⟨#[101]⟩ (by decide) (by decide) hr')
 have hk1 : ltr ⟨#[101]⟩ = [101] := by decide
 rw [hk1] at K1
 rw [hB] at K1
 have HR := h_ hr
 obtain ⟨a0, c0, rfl⟩ := RdK_slice hr
 unfold ndV at K1 ⊢
 rw [hk] at K1 ⊢
 clear hr ht hA hB ih
 generalize n.text = xt at *
 go_enter Tryz.func49, Tryz.ntmps49
 go_wp2_with (first | (go_at_call 46; refine (u_ K1 _ (RdK_later (bal (brf w) _) (u_ HR))).mono ?_; rintro e v1 ⟨rfl, hb1⟩))
 go_ret
 exact ⟨rfl, btr (bal (brf w) _) hb1⟩
theorem st34 (n : Nd) (ih : ∀ x ∈ n.kids, IsC x) (v : Value) (w : World) (ht : n.text.size ≤ maxLen) (hr : RdK w n.kids v) (hk : n.kind = 34) :
   CB 49 #[ndV n v] w (.bool ((n.text.size == 0) && kidsB n.kids [101])) := by
 cases hA : (n.text.size == 0) with
 | false => exact st34n n ih v w ht hr hk hA
 | true =>
   cases hB : (kidsB n.kids [101]) with
   | false => exact st34f n ih v w ht hr hk hA hB
   | true => exact st34t n ih v w ht hr hk hA hB
theorem st29n (n : Nd) (ih : ∀ x ∈ n.kids, IsC x) (v : Value) (w : World) (ht : n.text.size ≤ maxLen) (hr : RdK w n.kids v) (hk : n.kind = 29) (hA : (n.text.size == 0) = false) :
   CB 49 #[ndV n v] w (.bool false) := by
 have hn : n.text.toList.isEmpty = false := by rw [toListL, ← L_emp]; exact hA
 obtain ⟨a0, c0, rfl⟩ := RdK_slice hr
 unfold ndV
 rw [hk]
 clear hr ht hA ih
 generalize n.text = xt at *
 go_enter Tryz.func49, Tryz.ntmps49
 go_wp2
 go_ret
 exact ⟨rfl, bal (brf w) _⟩
theorem st29t (n : Nd) (ih : ∀ x ∈ n.kids, IsC x) (v : Value) (w : World) (ht : n.text.size ≤ maxLen) (hr : RdK w n.kids v) (hk : n.kind = 29) (hA : (n.text.size == 0) = true) (hB : kidsB n.kids [101, 98] = true) :
   CB 49 #[ndV n v] w (.bool true) := by
 have hn : n.text.toList.isEmpty = true := by rw [toListL, ← L_emp]; exact hA
 have K1 := h_ (fun w' hr' => kidsN n ih v w' ⟨#[101, 98]⟩ (by decide) (by decide) hr')
 have hk1 : ltr ⟨#[101, 98]⟩ = [101, 98] := by decide
 rw [hk1, hB] at K1
 have HR := h_ hr
 obtain ⟨a0, c0, rfl⟩ := RdK_slice hr
 unfold ndV at K1 ⊢
 rw [hk] at K1 ⊢
 clear hr ht hA hB ih
 generalize n.text = xt at *
 go_enter Tryz.func49, Tryz.ntmps49
 go_wp2_with (first | (go_at_call_of 46 (Value.string ⟨#[101, 98]⟩); refine (u_ K1 _ (RdK_later (bal (brf w) _) (u_ HR))).mono ?_; rintro e v1 ⟨rfl, hb1⟩; obtain ⟨hc1, hf1⟩ := bcell hb1))
 go_ret
 exact ⟨rfl, btr (bal (brf w) _) hb1⟩
theorem st29ft (n : Nd) (ih : ∀ x ∈ n.kids, IsC x) (v : Value) (w : World) (ht : n.text.size ≤ maxLen) (hr : RdK w n.kids v) (hk : n.kind = 29) (hA : (n.text.size == 0) = true) (hB : kidsB n.kids [101, 98] = false) (hC : kidsB n.kids [101, 98, 66] = true) :
   CB 49 #[ndV n v] w (.bool true) := by
 have hn : n.text.toList.isEmpty = true := by rw [toListL, ← L_emp]; exact hA
 have K1 := h_ (fun w' hr' => kidsN n ih v w' ⟨#[101, 98]⟩ (by decide) (by decide) hr')
 have hk1 : ltr ⟨#[101, 98]⟩ = [101, 98] := by decide
 rw [hk1, hB] at K1
 have K2 := h_ (fun w' hr' => kidsN n ih v w' ⟨#[101, 98, 66]⟩ (by decide) (by decide) hr')
 have hk2 : ltr ⟨#[101, 98, 66]⟩ = [101, 98, 66] := by decide
 rw [hk2, hC] at K2
 have HR := h_ hr
 obtain ⟨a0, c0, rfl⟩ := RdK_slice hr
 unfold ndV at K1 K2 ⊢
 rw [hk] at K1 K2 ⊢
 clear hr ht hA hB hC ih
 generalize n.text = xt at *
 go_enter Tryz.func49, Tryz.ntmps49
 go_wp2_with (first | (go_at_call_of 46 (Value.string ⟨#[101, 98]⟩); refine (u_ K1 _ (RdK_later (bal (brf w) _) (u_ HR))).mono ?_; rintro e v1 ⟨rfl, hb1⟩; obtain ⟨hc1, hf1⟩ := bcell hb1) | (go_at_call_of 46 (Value.string ⟨#[101, 98, 66]⟩); refine (u_ K2 _ (RdK_later (btr (bal (brf w) _) hb1) (u_ HR))).mono ?_; rintro e v2 ⟨rfl, hb2⟩))
 go_ret
 exact ⟨rfl, btr (btr (bal (brf w) _) hb1) hb2⟩
theorem st29ff (n : Nd) (ih : ∀ x ∈ n.kids, IsC x) (v : Value) (w : World) (ht : n.text.size ≤ maxLen) (hr : RdK w n.kids v) (hk : n.kind = 29) (hA : (n.text.size == 0) = true) (hB : kidsB n.kids [101, 98] = false) (hC : kidsB n.kids [101, 98, 66] = false) :
   CB 49 #[ndV n v] w (.bool false) := by
 have hn : n.text.toList.isEmpty = true := by rw [toListL, ← L_emp]; exact hA
 have K1 := h_ (fun w' hr' => kidsN n ih v w' ⟨#[101, 98]⟩ (by decide) (by decide) hr')
 have hk1 : ltr ⟨#[101, 98]⟩ = [101, 98] := by decide
 rw [hk1, hB] at K1
 have K2 := h_ (fun w' hr' => kidsN n ih v w' ⟨#[101, 98, 66]⟩ (by decide) (by decide) hr')
 have hk2 : ltr ⟨#[101, 98, 66]⟩ = [101, 98, 66] := by decide
 rw [hk2, hC] at K2
 have HR := h_ hr
 obtain ⟨a0, c0, rfl⟩ := RdK_slice hr
 unfold ndV at K1 K2 ⊢
 rw [hk] at K1 K2 ⊢
 clear hr ht hA hB hC ih
 generalize n.text = xt at *
 go_enter Tryz.func49, Tryz.ntmps49
 go_wp2_with (first | (go_at_call_of 46 (Value.string ⟨#[101, 98]⟩); refine (u_ K1 _ (RdK_later (bal (brf w) _) (u_ HR))).mono ?_; rintro e v1 ⟨rfl, hb1⟩; obtain ⟨hc1, hf1⟩ := bcell hb1) | (go_at_call_of 46 (Value.string ⟨#[101, 98, 66]⟩); refine (u_ K2 _ (RdK_later (btr (bal (brf w) _) hb1) (u_ HR))).mono ?_; rintro e v2 ⟨rfl, hb2⟩))
 go_ret
 exact ⟨rfl, btr (btr (bal (brf w) _) hb1) hb2⟩
theorem st29 (n : Nd) (ih : ∀ x ∈ n.kids, IsC x) (v : Value) (w : World) (ht : n.text.size ≤ maxLen) (hr : RdK w n.kids v) (hk : n.kind = 29) :
   CB 49 #[ndV n v] w (.bool ((n.text.size == 0) && (kidsB n.kids [101, 98] || kidsB n.kids [101, 98, 66]))) := by
 cases hA : (n.text.size == 0) with
 | false => exact st29n n ih v w ht hr hk hA
 | true =>
   cases hB : kidsB n.kids [101, 98] with
   | true => exact st29t n ih v w ht hr hk hA hB
   | false =>
     cases hC : kidsB n.kids [101, 98, 66] with
     | true => exact st29ft n ih v w ht hr hk hA hB hC
     | false => exact st29ff n ih v w ht hr hk hA hB hC
end Go.Proofs.YtddlokkejglckaaGreatDoor
