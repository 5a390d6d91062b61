/- What the program's formed and NodeOK answer. -/
import Derived.Test.YtlcpmbdckmdabaaGreatDoorNH10
import Derived.Test.YtlcpmbdckmdabaaGreatDoorNH11
namespace Go.Proofs.YtlcpmbdckmdabaaGreatDoor
open Go.RowKit Nt
set_option linter.unusedVariables false
set_option maxRecDepth 100000
theorem fm_eq (n : Nd) : fm n = (txB n.kind n.text && kdB n.kind n.kids && fmL n.kids) := by obtain ⟨k, t, ks⟩ := n; exact fm_mk k t ks
theorem fmL_drop {ks : List Nd} {j : Nat} {x : Nd} (hdr : ks.drop j = x :: ks.drop (j + 1)) : fmL (ks.drop j) = (fm x && fmL (ks.drop (j + 1))) := by rw [hdr, fmL]
/-- What formed answers. -/
def FmC (n : Nd) : Prop := ∀ (v : Value) (w : World), n.text.size ≤ maxLen → RdK w n.kids v → Gd w → Ops w →
  Calls Tryz.prog 15 #[ndV n v] w fun e w' => e = .returned (.bool (fm n)) ∧ Below w.heap.size w w'
set_option maxHeartbeats 800000 in
theorem formedN : ∀ n, FmC n := by
  refine Nd.ind fun n ih => ?_
  intro v w ht hr hg ho
  have HP := hide ih
  have HG := hide hg
  have HO := hide ho
  have HR := hide hr
  have hl := len_ok hr
  have TX := hide (fun w' hr' hg' ho' => iTextF n v w' ht hr' hg' ho')
  have KD := hide (fun w' hr' => iKids n v w' hr')
  rw [fm_eq]
  obtain ⟨a0, c0, hv0⟩ := RdK_slice hr
  subst hv0
  unfold ndV at TX KD ⊢
  clear ih hr hg ho ht
  cases hT : txB n.kind n.text with
  | false =>
    rw [hT] at TX
    rw [Bool.false_and, Bool.false_and]
    clear KD hT
    generalize n.kind = xk at *
    generalize n.text = xt at *
    go_enter Tryz.func15, Tryz.ntmps15
    go_wp2_with (go_at_call 18; refine (unhide TX _ (RdK_later (bal (brf w) _) (unhide HR)) (Gd_later (unhide HG) (bal (brf w) _)) (Ops_later (unhide HO) (bal (brf w) _))).mono ?_; rintro e v1 ⟨rfl, hb1⟩)
    go_ret
    exact ⟨rfl, btr (bal (brf w) _) hb1⟩
  | true =>
    rw [hT] at TX
    rw [Bool.true_and]
    clear hT
    cases hK : kdB n.kind n.kids with
    | false =>
      rw [hK] at KD
      rw [Bool.false_and]
      clear hK
      generalize n.kind = xk at *
      generalize n.text = xt at *
      go_enter Tryz.func15, Tryz.ntmps15
      go_wp2_with (first | (go_at_call 18; refine (unhide TX _ (RdK_later (bal (brf w) _) (unhide HR)) (Gd_later (unhide HG) (bal (brf w) _)) (Ops_later (unhide HO) (bal (brf w) _))).mono ?_; rintro e v1 ⟨rfl, hb1⟩; obtain ⟨hc1, hf1⟩ := bcell hb1) | (go_at_call 19; refine (unhide KD _ (RdK_later (btr (bal (brf w) _) hb1) (unhide HR))).mono ?_; rintro e v2 ⟨rfl, hb2⟩))
      go_ret
      exact ⟨rfl, btr (btr (bal (brf w) _) hb1) hb2⟩
    | true =>
      rw [hK] at KD
      rw [Bool.true_and]
      clear hK
      have Z2 : Hid ((w.alloc (Obj.cells #[Value.int IntKind.i64 n.kind, Value.string n.text, Value.slice a0 n.kids.length c0] 29)).cell? ⟨w.heap.size, 2, none⟩ = some (.slice a0 n.kids.length c0)) := hide (by rw [World.cell?_alloc_new]; rfl)
      generalize n.kind = xk at *
      generalize n.text = xt at *
      go_enter Tryz.func15, Tryz.ntmps15
      go_wp2_with (first | (go_at_call 18; refine (unhide TX _ (RdK_later (bal (brf w) _) (unhide HR)) (Gd_later (unhide HG) (bal (brf w) _)) (Ops_later (unhide HO) (bal (brf w) _))).mono ?_; rintro e v1 ⟨rfl, hb1⟩; obtain ⟨hc1, hf1⟩ := bcell hb1) | (go_at_call 19; refine (unhide KD _ (RdK_later (btr (bal (brf w) _) hb1) (unhide HR))).mono ?_; rintro e v2 ⟨rfl, hb2⟩; have j2 := cell_later hb2 (cell_later hb1 (unhide Z2)); have HB2 := hide (btr (btr (bal (brf w) _) hb1) hb2)))
      clear hc1 hf1 hb1 hb2 TX KD Z2
      go_loopw [16] (fun i wr => ∃ j : Nat, i = .int .i64 j ∧ j ≤ n.kids.length ∧ Below v2.heap.size v2 wr ∧ fmL (n.kids.drop j) = fmL n.kids) (fun i wr => n.kids.length - (intOf i).toNat)
      case atStart => exact ⟨0, rfl, Nat.zero_le _, brf _, rfl⟩
      case round =>
        obtain ⟨j, rfl, hj, hb, hall⟩ := hrel
        have hbw := btr (unhide HB2) hb
        have HB := hide hbw
        have HA := hide hall
        have HB0 := hide hb
        by_cases hjn : j < n.kids.length
        · have hx : n.kids[j]? = some n.kids[j] := List.getElem?_eq_getElem hjn
          have hdr := List.drop_eq_getElem_cons hjn
          generalize n.kids[j] = x at hx hdr
          rcases RdK_cases (unhide HR) with ⟨h0, _⟩ | ⟨b, o, c', vs, hvv, hn, hcs⟩
          · rw [h0] at hjn; simp at hjn
          obtain ⟨k1, k2, k3, hts, hk⟩ := hcs j x hx
          have k1' := cell_later hbw k1
          have k2' := cell_later hbw k2
          have k3' := cell_later hbw k3
          have PX := hide (fun (wy : World) (hy : Below wr.heap.size wr wy) => unhide HP x (List.mem_of_getElem? hx) (vs j) wy hts (RdK_later hy (RdK_later hbw hk)) (Gd_later (Gd_later (unhide HG) hbw) hy) (Ops_later (Ops_later (unhide HO) hbw) hy))
          unfold ndV at PX
          obtain ⟨ha0, hc0⟩ : a0 = some ⟨b, o, none⟩ ∧ c0 = c' := by injection hvv with h1 h2 h3; exact ⟨h1, h3⟩
          subst ha0 hc0
          obtain ⟨a', c'', hv'⟩ := RdK_slice hk
          rw [hv'] at k3' PX
          rw [fmL_drop hdr] at HA
          clear hb hbw k1 k2 k3 hk hcs hvv hall
          cases hok : fm x with
          | true =>
            rw [hok] at PX HA
            rw [Bool.true_and] at HA
            clear hok
            generalize x.kind = yk at *
            generalize x.text = yt at *
            go_wp2_with (go_at_call 15; refine (unhide PX _ (bal (brf _) _)).mono ?_; rintro e v3 ⟨rfl, hb3⟩)
            exact ⟨⟨j + 1, by go_num, by omega, btr (bal (unhide HB0) _) hb3, unhide HA⟩, by simp [intOf]; omega⟩
          | false =>
            rw [hok] at PX HA
            rw [Bool.false_and] at HA
            clear hok
            generalize x.kind = yk at *
            generalize x.text = yt at *
            go_wp2_with (go_at_call 15; refine (unhide PX _ (bal (brf _) _)).mono ?_; rintro e v3 ⟨rfl, hb3⟩)
            exact bodyPost_ret (v := .bool false) (by simp [results, Tryz.results15, go_sem]) rfl ⟨by rw [← unhide HA], btr (bal (unhide HB) _) hb3⟩
        · rw [List.drop_of_length_le (by omega)] at HA
          clear hb hbw hall
          go_wp2
          exact bodyPost_ret (v := .bool true) (by simp [results, Tryz.results15, go_sem]) rfl ⟨by rw [← unhide HA, fmL], unhide HB⟩
theorem okN_eq2 (n : Nd) : okN n = (decide (n.kind = 1) && (decide (cnt n ≤ 8192) && (decide (dep n ≤ 40) && fm n))) := by
  unfold okN fitsB
  generalize decide (n.kind = 1) = a
  generalize decide (cnt n ≤ 8192) = b
  generalize decide (dep n ≤ 40) = c
  generalize fm n = d
  revert a b c d; decide
set_option maxHeartbeats 800000 in
/-- What the program's NodeOK answers. -/
theorem iNodeOK (n : Nd) (v : Value) (w : World) (hsz : sz n ≤ 1048576) (ht : n.text.size ≤ maxLen) (hr : RdK w n.kids v) (hg : Gd w) (ho : Ops w) :
    Calls Tryz.prog 7 #[ndV n v] w fun e w' => e = .returned (.bool (okN n)) ∧ Below w.heap.size w w' := by
  rw [okN_eq2]
  have HR := hide hr
  have CT := hide (fun w' hr' => ctN n v w' 8192 hsz (by decide) hr')
  have DP := hide (fun w' hr' => dpN n v w' hsz hr')
  have FM := hide (fun w' hr' hg' ho' => formedN n v w' ht hr' hg' ho')
  have HG := hide hg
  have HO := hide ho
  have hdx := dep_le n
  obtain ⟨a0, c0, hv0⟩ := RdK_slice hr
  subst hv0
  unfold ndV at CT DP FM ⊢
  clear hr hg ho ht
  by_cases h1 : n.kind = 1
  · rw [decide_eq_true h1, Bool.true_and]
    rw [h1] at CT DP FM ⊢
    have Z0 : Hid ((w.alloc (Obj.cells #[Value.int IntKind.i64 1, Value.string n.text, Value.slice a0 n.kids.length c0] 29)).cell? ⟨w.heap.size, 0, none⟩ = some (.int .i64 1)) := hide (by rw [World.cell?_alloc_new]; rfl)
    have Z1 : Hid ((w.alloc (Obj.cells #[Value.int IntKind.i64 1, Value.string n.text, Value.slice a0 n.kids.length c0] 29)).cell? ⟨w.heap.size, 1, none⟩ = some (.string n.text)) := hide (by rw [World.cell?_alloc_new]; rfl)
    have Z2 : Hid ((w.alloc (Obj.cells #[Value.int IntKind.i64 1, Value.string n.text, Value.slice a0 n.kids.length c0] 29)).cell? ⟨w.heap.size, 2, none⟩ = some (.slice a0 n.kids.length c0)) := hide (by rw [World.cell?_alloc_new]; rfl)
    by_cases h2 : cnt n ≤ 8192
    · rw [decide_eq_true h2, Bool.true_and]
      by_cases h3 : dep n ≤ 40
      · rw [decide_eq_true h3, Bool.true_and]
        generalize fm n = r at *
        generalize hD : dep n = D at *
        generalize hC : cnt n = C at *
        generalize n.text = xt at *
        go_enter Tryz.func7, Tryz.ntmps7
        go_wp2_with (first | (go_at_call 15; refine (unhide FM _ (RdK_later (btr (btr (bal (brf w) _) hb1) hb2) (unhide HR)) (Gd_later (unhide HG) (btr (btr (bal (brf w) _) hb1) hb2)) (Ops_later (unhide HO) (btr (btr (bal (brf w) _) hb1) hb2))).mono ?_; rintro e v3 ⟨rfl, hb3⟩) | (go_at_call 14; refine (unhide DP _ (RdK_later (btr (bal (brf w) _) hb1) (unhide HR))).mono ?_; rintro e v2 ⟨rfl, hb2⟩; have x0 := cell_later hb2 y0; have x1 := cell_later hb2 y1; have x2 := cell_later hb2 y2) | (go_at_call 13; refine (unhide CT _ (RdK_later (bal (brf w) _) (unhide HR))).mono ?_; rintro e v1 ⟨⟨r', rfl, hr1, hr2⟩, hb1⟩; have y0 := cell_later hb1 (unhide Z0); have y1 := cell_later hb1 (unhide Z1); have y2 := cell_later hb1 (unhide Z2); have hr3 : (r' : Int) ≤ 8192 := (by have := hr1 h2; omega); clear hr1 hr2))
        go_ret
        exact ⟨rfl, btr (btr (btr (bal (brf w) _) hb1) hb2) hb3⟩
      · rw [decide_eq_false h3, Bool.false_and]
        generalize hD : dep n = D at *
        generalize hC : cnt n = C at *
        generalize n.text = xt at *
        have h4 : ¬ ((D : Int) ≤ 40) := by omega
        go_enter Tryz.func7, Tryz.ntmps7
        go_wp2_with (first | (go_at_call 14; refine (unhide DP _ (RdK_later (btr (bal (brf w) _) hb1) (unhide HR))).mono ?_; rintro e v2 ⟨rfl, hb2⟩) | (go_at_call 13; refine (unhide CT _ (RdK_later (bal (brf w) _) (unhide HR))).mono ?_; rintro e v1 ⟨⟨r', rfl, hr1, hr2⟩, hb1⟩; have y0 := cell_later hb1 (unhide Z0); have y1 := cell_later hb1 (unhide Z1); have y2 := cell_later hb1 (unhide Z2); have hr3 : (r' : Int) ≤ 8192 := (by have := hr1 h2; omega); clear hr1 hr2))
        go_ret
        exact ⟨rfl, btr (btr (bal (brf w) _) hb1) hb2⟩
    · rw [decide_eq_false h2, Bool.false_and]
      generalize hC : cnt n = C at *
      generalize n.text = xt at *
      go_enter Tryz.func7, Tryz.ntmps7
      go_wp2_with (go_at_call 13; refine (unhide CT _ (RdK_later (bal (brf w) _) (unhide HR))).mono ?_; rintro e v1 ⟨⟨r', rfl, hr1, hr2⟩, hb1⟩; have hr3 : ¬ ((r' : Int) ≤ 8192) := (by have := hr2 (by omega); omega); clear hr1 hr2)
      go_ret
      exact ⟨rfl, btr (bal (brf w) _) hb1⟩
  · have a1 : (n.kind == 1) = false := beq_eq_false_iff_ne.2 h1
    rw [decide_eq_false h1, Bool.false_and]
    clear CT DP FM h1
    generalize n.kind = xk at *
    generalize n.text = xt at *
    go_enter Tryz.func7, Tryz.ntmps7
    go_wp2
    go_ret
    exact ⟨rfl, bal (brf w) _⟩
end Go.Proofs.YtlcpmbdckmdabaaGreatDoor
