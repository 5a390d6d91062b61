/- The law FnExactResize's walk: the program's Resize answers as the specification's. -/
import Derived.Test.YtmbllgblbdfobaaRsz
import Derived.Test.YtmbllgblbdfobaaI5
import Derived.Test.YtmbllgblbdfobaaL2
namespace Go.Proofs.Ytmbllgblbdfobaa
open Go.RowKit
set_option maxHeartbeats 400000 in
theorem iResize (s : ByteArray) (n : Nat) (b : Bool) (w : World) (hs : s.size ≤ maxLen) (hv : Vb.okV (L s) = true) (hn1 : 1 ≤ n) (hn2 : n ≤ 64) :
    Calls Try.prog 22 #[.string s, .int .i64 n, .bool b] w fun e w' => e = .returned (.string (S (rszL n b (L s)))) ∧ Below w.heap.size w w' := by
  obtain ⟨h1, h2, h3⟩ := (okV_iff s).1 hv
  have hd : decide ((1 : Int) ≤ n ∧ (n : Int) ≤ 64) = true := by simp; omega
  have HV := hide hv
  have H3 := hide h3
  clear hv h3
  go_enter Try.func22, Try.ntmps22
  go_wp2_with fail
  refine (iVecOf s _ hs (unhide HV)).mono ?_
  rintro e w1 ⟨rfl, hb⟩
  unfold V
  go_wp2_with fail
  refine (iWidthOK _ _).mono ?_
  rw [hd]
  rintro e w2 ⟨rfl, rfl⟩
  go_wp2_with fail
  cases b
  · refine (iResized_no _ n _ _ h2 hn2 _).mono ?_
    rintro e w3 ⟨rfl, hb3⟩
    unfold V
    go_wp2_with fail
    refine (iText n _ _ hn2 _).mono ?_
    rintro e w4 ⟨rfl, hb4⟩
    have hr := rsz_no (m := n) (unhide H3) hn2
    rw [L_len] at hr
    rw [hr]
    go_wp2
    go_ret
    refine ⟨rfl, ?_⟩
    repeat first | exact brf _ | refine bdr ?_ | refine bst ?_ (by first | exact Nat.le_refl _ | (simp; done) | (simp; omega)) _ | refine btr ?_ hb4 | refine btr ?_ hb3 | refine btr ?_ hb | refine bal ?_ _
  · refine (iResized_yes _ n _ _ h1 h2 hn2 _).mono ?_
    rintro e w3 ⟨rfl, hb3⟩
    have hr := rsz_yes (m := n) (unhide H3) (by rw [L_len]; exact h1) (by rw [L_len]; exact h2) hn2
    rw [L_len] at hr
    have HR := hide hr
    clear hr
    generalize (Vb.kn (L s) &&& Vb.ones n &&& ~~~(Vb.ones n &&& ~~~Vb.ones s.size) ||| (if (Vb.kn (L s) >>> (s.size - 1) &&& Vb.ones 1).getLsbD 0 then (Vb.ones n &&& ~~~Vb.ones s.size) else 0#64)) = K at *
    generalize (Vb.wh (L s) &&& Vb.ones n &&& ~~~(Vb.ones n &&& ~~~Vb.ones s.size) ||| (if (Vb.wh (L s) >>> (s.size - 1) &&& Vb.ones 1).getLsbD 0 then (Vb.ones n &&& ~~~Vb.ones s.size) else 0#64)) = H at *
    unfold V
    go_wp2_with fail
    refine (iText n _ _ hn2 _).mono ?_
    rintro e w4 ⟨rfl, hb4⟩
    rw [unhide HR]
    go_wp2
    go_ret
    refine ⟨rfl, ?_⟩
    repeat first | exact brf _ | refine bdr ?_ | refine bst ?_ (by first | exact Nat.le_refl _ | (simp; done) | (simp; omega)) _ | refine btr ?_ hb4 | refine btr ?_ hb3 | refine btr ?_ hb | refine bal ?_ _
set_option maxHeartbeats 400000 in
theorem iResize_no (s : ByteArray) (n : Int) (b : Bool) (w : World) (hs : s.size ≤ maxLen) (h : (Vb.okV (L s) && decide (1 ≤ n ∧ n ≤ 64)) = false) :
    Calls Try.prog 22 #[.string s, .int .i64 n, .bool b] w fun e w' => e = .returned (.string (S [])) ∧ Below w.heap.size w w' := by
  cases hv : Vb.okV (L s)
  · have HV := hide hv
    clear hv h
    go_enter Try.func22, Try.ntmps22
    go_wp2_with fail
    refine (iVecOf_no s _ hs (unhide HV)).mono ?_
    rintro e w1 ⟨rfl, hb⟩
    unfold V
    go_wp2
    go_ret
    refine ⟨rfl, ?_⟩
    repeat first | exact brf _ | refine bdr ?_ | refine bst ?_ (by first | exact Nat.le_refl _ | (simp; done) | (simp; omega)) _ | refine btr ?_ hb | refine bal ?_ _
  · rw [hv, Bool.true_and] at h
    have HV := hide hv
    have HD := hide h
    clear hv h
    go_enter Try.func22, Try.ntmps22
    go_wp2_with fail
    refine (iVecOf s _ hs (unhide HV)).mono ?_
    rintro e w1 ⟨rfl, hb⟩
    unfold V
    go_wp2_with fail
    refine (iWidthOK _ _).mono ?_
    rw [unhide HD]
    rintro e w2 ⟨rfl, rfl⟩
    go_wp2
    go_ret
    refine ⟨rfl, ?_⟩
    repeat first | exact brf _ | refine bdr ?_ | refine bst ?_ (by first | exact Nat.le_refl _ | (simp; done) | (simp; omega)) _ | refine btr ?_ hb | refine bal ?_ _
set_option maxHeartbeats 400000 in
theorem lResize (s : ByteArray) (n : Int) (b : Bool) (w : World) (hs : s.size ≤ maxLen) (_hn : (Lit.int .i64 n).wf = true) :
    Calls Try.prog 9 #[.string s, .int .i64 n, .bool b] w fun e w' => e = .returned (.bool true) ∧ Below w.heap.size w w' := by
  by_cases h : 1048576 < (s.size : Int)
  · go_enter Try.func9, Try.ntmps9
    go_wp2
    go_ret
    exact ⟨rfl, brf _⟩
  · cases hg : (Vb.okV (L s) && decide (1 ≤ n ∧ n ≤ 64))
    · have HG := hide hg
      clear hg
      go_enter Try.func9, Try.ntmps9
      go_wp2_with fail
      refine (sResize_no s n b _ hs (unhide HG)).mono ?_
      rintro e w' ⟨rfl, rfl⟩
      go_wp2_with fail
      refine (iResize_no s n b _ hs (unhide HG)).mono ?_
      rintro e w' ⟨rfl, hb⟩
      go_wp2
      go_ret
      exact ⟨rfl, hb⟩
    · rw [Bool.and_eq_true, decide_eq_true_eq] at hg
      obtain ⟨hv, g1, g2⟩ := hg
      have HV := hide hv
      clear hv
      obtain ⟨m, rfl⟩ := Int.eq_ofNat_of_zero_le (show 0 ≤ n by omega)
      go_enter Try.func9, Try.ntmps9
      go_wp2_with fail
      refine (sResize s m b _ hs (unhide HV) (by omega) (by omega)).mono ?_
      rintro e w' ⟨rfl, rfl⟩
      generalize hR : S (rszL m b (L s)) = R
      have HR := hide hR
      clear hR
      go_wp2_with fail
      refine (iResize s m b _ hs (unhide HV) (by omega) (by omega)).mono ?_
      rintro e w' ⟨rfl, hb⟩
      rw [unhide HR]
      go_wp2
      go_ret
      exact ⟨rfl, hb⟩
end Go.Proofs.Ytmbllgblbdfobaa
