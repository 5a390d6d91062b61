/- What the program's Resolve answers. -/
import Derived.Test.YtmbllgblbdfobaaS12
import Derived.Test.YtmbllgblbdfobaaI6
import Derived.Test.YtmbllgblbdfobaaIT
namespace Go.Proofs.Ytmbllgblbdfobaa
open Go.RowKit
/-- The texts resolved one behind the other, or none. -/
def resI : List UInt8 → List ByteArray → List UInt8
  | acc, [] => acc
  | acc, s :: t => if Vb.okV (L s) && decide (s.size = acc.length) then resI (List.zipWith resB acc (L s)) t else []
theorem VB_store {b n : Nat} {k h : BitVec 64} {W : World} (r : RB b W) : VB b n k h (((W.setCell ⟨b, 0, none⟩ (.int .i64 n)).setCell ⟨b, 1, none⟩ (.int .u64 (U k))).setCell ⟨b, 2, none⟩ (.int .u64 (U h))) := by
  obtain ⟨x, y, z, c0, c1, c2, _⟩ := r
  refine ⟨?_, ?_, ?_⟩ <;> simp [go_sem, c0, c1, c2]
theorem RB_store {b n : Nat} {k h : BitVec 64} {W : World} (r : RB b W) : RB b (((W.setCell ⟨b, 0, none⟩ (.int .i64 n)).setCell ⟨b, 1, none⟩ (.int .u64 (U k))).setCell ⟨b, 2, none⟩ (.int .u64 (U h))) := by
  obtain ⟨v0, v1, v2⟩ := VB_store (n := n) (k := k) (h := h) r
  obtain ⟨x, y, z, c0, c1, c2, f0, f1, f2⟩ := r
  exact ⟨_, _, _, v0, v1, v2, by simp [f0], by simp [f1], by simp [f2]⟩
theorem letter_inj (k h : Bool) : Vb.knB (Vb.letter k h) = k ∧ Vb.whB (Vb.letter k h) = h := by cases k <;> cases h <;> exact ⟨rfl, rfl⟩
theorem res_letter (k h p q : Bool) : Vb.letter (k && (q && !p || k && p && !(h ^^ q)) || p && (h && !k)) (h && (q && !p || k && p && !(h ^^ q)) || q && (h && !k)) = resB (Vb.letter k h) (Vb.letter p q) := by
  cases k <;> cases h <;> cases p <;> cases q <;> rfl
theorem res_txt (n : Nat) (k h p q : BitVec 64) (hn : n ≤ 64) : Vb.txt n ((k &&& (q &&& ~~~p ||| k &&& p &&& ~~~(h ^^^ q))) ||| (p &&& (h &&& ~~~k))) ((h &&& (q &&& ~~~p ||| k &&& p &&& ~~~(h ^^^ q))) ||| (q &&& (h &&& ~~~k))) = List.zipWith resB (Vb.txt n k h) (Vb.txt n p q) := by
  induction n with
  | zero => rfl
  | succ n ih =>
    rw [Vb.txt, Vb.txt, Vb.txt, List.zipWith_cons_cons, ih (by omega)]
    congr 1
    have h64 : n < 64 := by omega
    simp only [BitVec.getLsbD_or, BitVec.getLsbD_and, BitVec.getLsbD_not, BitVec.getLsbD_xor, h64, decide_true, Bool.true_and]
    exact res_letter _ _ _ _
set_option maxRecDepth 100000 in
set_option maxHeartbeats 1000000 in
theorem iResolve (b off n cap : Nat) (ss : List ByteArray) (s0 : ByteArray) (w : World) (hlen : ss.length + 1 = n) (hc0 : w.cell? ⟨b, off, none⟩ = some (.string s0)) (hc : ∀ i, (h : i < ss.length) → w.cell? ⟨b, off + 1 + i, none⟩ = some (.string ss[i])) (hn : n ≤ 4096) (hcap : n ≤ cap) (hz0 : s0.size ≤ maxLen) (hz : ∀ s ∈ ss, s.size ≤ maxLen) (hv0 : Vb.okV (L s0) = true) :
    Calls Try.prog 33 #[.slice (some ⟨b, off, none⟩) n cap] w fun e w' => e = .returned (.string (S (resI (L s0) ss))) ∧ Below w.heap.size w w' := by
  obtain ⟨f1, f2, f3⟩ := (okV_iff s0).1 hv0
  have ht0 : Vb.txt s0.size (Vb.kn (L s0)) (Vb.wh (L s0)) = L s0 := by
    have := Vb.txt_of f3 (by rw [L_len]; exact f2)
    rw [L_len] at this; exact this
  have HL := hide hlen
  have HC := hide hc
  have HZ := hide hz
  have HV0 := hide hv0
  have HT0 := hide ht0
  have ne0 : ((n : Int) == 0) = false := by simp; omega
  have ng : decide (4096 < (n : Int)) = false := by simp; omega
  have j0 : (0 : Int) < (n : Int) := by omega
  have j1 : (1 : Int) ≤ (n : Int) := by omega
  have j2 : (n : Int) ≤ (cap : Int) := by omega
  have hn1 : 1 ≤ n := by omega
  clear hc hz hv0 ht0 f3 hlen
  generalize hK0 : Vb.kn (L s0) = K0 at *
  generalize hH0 : Vb.wh (L s0) = H0 at *
  have HK0 := hide hK0
  have HH0 := hide hH0
  clear hK0 hH0
  by_cases hc1 : cap = 1
  · have hn1' : n = 1 := by omega
    have HE : Hid (ss = []) := List.eq_nil_of_length_eq_zero (by have := unhide HL; omega)
    subst hc1 hn1'
    go_enter Try.func33, Try.ntmps33
    go_wp2_with fail
    refine (iVecOf s0 _ hz0 (unhide HV0)).mono ?_
    rw [unhide HK0, unhide HH0]
    rintro e w1 ⟨rfl, hb1⟩
    unfold V
    go_wp2
    go_loopw [29] (fun i W => i = .int .i64 0 ∧ VB w1.heap.size s0.size K0 H0 W ∧ Below w.heap.size w W) (fun _ _ => 0)
    case atStart => exact ⟨rfl, VB_new w1, bal hb1 _⟩
    case round =>
      obtain ⟨rfl, ⟨v0, v1, v2⟩, hbel⟩ := hrel
      go_wp2_with fail
      refine (iText s0.size _ _ f2 _).mono ?_
      rw [unhide HT0]
      rintro e w2 ⟨rfl, hb2⟩
      go_wp2
      go_ret
      exact ⟨by rw [unhide HE]; rfl, btr hbel hb2⟩
  · go_enter Try.func33, Try.ntmps33
    go_wp2_with fail
    refine (iVecOf s0 _ hz0 (unhide HV0)).mono ?_
    rw [unhide HK0, unhide HH0]
    rintro e w1 ⟨rfl, hb1⟩
    unfold V
    go_wp2
    go_loopw [29] (fun i W => ∃ k : Nat, k ≤ n - 1 ∧ i = .int .i64 k ∧ ∃ K H acc, VB w1.heap.size s0.size K H W ∧ RB w1.heap.size W ∧ Vb.txt s0.size K H = acc ∧ resI (L s0) ss = resI acc (ss.drop k) ∧ Below w.heap.size w W) (fun i _ => n - 1 - (intOf i).toNat)
    case atStart => exact ⟨0, Nat.zero_le _, rfl, K0, H0, L s0, VB_new w1, RB_new w1 _ _ _ _, unhide HT0, rfl, bal hb1 _⟩
    case round =>
      obtain ⟨k, hk, rfl, K, H, acc, hV, hR, hacc, hres, hbel⟩ := hrel
      have HACC := hide hacc
      have hal : acc.length = s0.size := by rw [← hacc, Vb.txt_len]
      clear hacc
      have hw1 := hb1.size
      by_cases hlt : k < n - 1
      · have hks : k < ss.length := by have := unhide HL; omega
        have hcell := cell_later hbel (unhide HC k hks)
        have hxm := unhide HZ ss[k] (List.getElem_mem hks)
        rw [List.drop_eq_getElem_cons hks, resI, hal] at hres
        generalize ss[k] = x at *
        cases hox : Vb.okV (L x)
        · rw [hox] at hres
          have HJ : Hid (resI (L s0) ss = []) := by show _ = _; rw [hres]; rfl
          have HO := hide hox
          clear hres hox
          go_wp2_with fail
          refine (iVecOf_no x _ hxm (unhide HO)).mono ?_
          rintro e w2 ⟨rfl, hb2⟩
          unfold V
          go_wp2
          go_ret
          exact ⟨by rw [unhide HJ]; rfl, bal (btr hbel hb2) _⟩
        · rw [hox, Bool.true_and] at hres
          obtain ⟨g1, g2, g3⟩ := (okV_iff x).1 hox
          have htx : Vb.txt x.size (Vb.kn (L x)) (Vb.wh (L x)) = L x := by
            have := Vb.txt_of g3 (by rw [L_len]; exact g2)
            rw [L_len] at this; exact this
          have HTX := hide htx
          have HO := hide hox
          clear hox g3 htx
          generalize hP : Vb.kn (L x) = P at *
          generalize hQ : Vb.wh (L x) = Q at *
          have HP := hide hP
          have HQ := hide hQ
          clear hP hQ
          by_cases hsz : x.size = s0.size
          · rw [if_pos (by simpa using hsz)] at hres
            have hne : ((x.size : Int) != (s0.size : Int)) = false := by rw [hsz]; simp
            have hrt := res_txt s0.size K H P Q f2
            rw [unhide HACC] at hrt
            have htx' := unhide HTX
            rw [hsz] at htx'
            rw [htx'] at hrt
            have HRT := hide hrt
            have HRES := hide hres
            have HSZ := hide hsz
            clear hres hrt htx' hsz
            go_wp2_with fail
            refine (iVecOf x _ hxm (unhide HO)).mono ?_
            rw [unhide HP, unhide HQ]
            rintro e w2 ⟨rfl, hb2⟩
            obtain ⟨v0, v1, v2⟩ := VB_later hb2 hV
            have R2 := RB_alloc (RB_later hb2 hR) (.cells #[.int .i64 x.size, .int .u64 (U P), .int .u64 (U Q)] 60)
            have hz2 : w1.heap.size < w2.heap.size := World.block_lt_of_cell? _ _ v0
            have hb2' := btr hbel hb2
            unfold V
            go_wp2_with fail
            refine (iResolved _ _ _ _ _ _ _).mono ?_
            rintro e w3 ⟨rfl, hb3⟩
            obtain ⟨x0, y0, z0, c0, c1, c2, d0, d1, d2⟩ := RB_later hb3 R2
            have R3 := RB_later hb3 R2
            have hb3' := btr (bal hb2' _) hb3
            have hle : w.heap.size ≤ w1.heap.size := hw1
            unfold V
            go_wp2
            exact ⟨⟨k + 1, by omega, by go_num, _, _, _, VB_store R3, RB_store R3, unhide HRT, unhide HRES, bst (bst (bst hb3' hle _) hle _) hle _⟩, by simp [intOf]; omega⟩
          · rw [if_neg (by simpa using hsz)] at hres
            have hne : ((x.size : Int) != (s0.size : Int)) = true := by simp; omega
            have HJ := hide hres
            clear hres hsz
            go_wp2_with fail
            refine (iVecOf x _ hxm (unhide HO)).mono ?_
            rw [unhide HP, unhide HQ]
            rintro e w2 ⟨rfl, hb2⟩
            obtain ⟨v0, v1, v2⟩ := VB_later hb2 hV
            have hz2 : w1.heap.size < w2.heap.size := World.block_lt_of_cell? _ _ v0
            unfold V
            go_wp2
            go_ret
            exact ⟨by rw [unhide HJ]; rfl, bal (btr hbel hb2) _⟩
      · have HJ : Hid (resI (L s0) ss = acc) := by
          show _ = _
          rw [hres, List.drop_of_length_le (by have := unhide HL; omega)]; rfl
        clear hres
        obtain ⟨v0, v1, v2⟩ := hV
        go_wp2_with fail
        refine (iText s0.size _ _ f2 _).mono ?_
        rw [unhide HACC]
        rintro e w2 ⟨rfl, hb2⟩
        go_wp2
        go_ret
        exact ⟨by rw [unhide HJ]; rfl, btr hbel hb2⟩
/-- All texts are vectors of one width. -/
def good (ss : List ByteArray) (m : Nat) : Prop := ∀ s ∈ ss, Vb.okV (L s) = true ∧ s.size = m
theorem resI_bad (acc : List UInt8) (ss : List ByteArray) (m : Nat) (hm : acc.length = m) (h : ¬ good ss m) : resI acc ss = [] := by
  induction ss generalizing acc with
  | nil => exact absurd (fun s hs => by cases hs) h
  | cons s t ih =>
    rw [resI]
    by_cases hg : (Vb.okV (L s) && decide (s.size = acc.length)) = true
    · rw [if_pos hg]
      rw [Bool.and_eq_true, decide_eq_true_eq] at hg
      apply ih
      · rw [List.length_zipWith, L_len, hg.2, Nat.min_self]; exact hm
      · intro ht
        apply h
        intro x hx
        rcases List.mem_cons.1 hx with rfl | hx
        · exact ⟨hg.1, by rw [hg.2]; exact hm⟩
        · exact ht x hx
    · rw [if_neg hg]
theorem resI_good (acc : List UInt8) (ss : List ByteArray) (m : Nat) (hm : acc.length = m) (h : good ss m) : (resI acc ss).length = m ∧ ∀ k, k < m → (resI acc ss).getD k 0 = ss.foldl (fun c s => resB c ((L s).getD k 0)) (acc.getD k 0) := by
  induction ss generalizing acc with
  | nil => exact ⟨hm, fun k _ => rfl⟩
  | cons s t ih =>
    have hs := h s (by simp)
    rw [resI, if_pos (by rw [hs.1, Bool.true_and, decide_eq_true_eq, hs.2, hm])]
    obtain ⟨i1, i2⟩ := ih (List.zipWith resB acc (L s)) (by rw [List.length_zipWith, L_len, hs.2, hm, Nat.min_self]) (fun x hx => h x (by simp [hx]))
    refine ⟨i1, fun k hk => ?_⟩
    rw [i2 k hk, List.foldl_cons]
    congr 1
    have ha : k < acc.length := by omega
    have hb : k < (L s).length := by rw [L_len, hs.2]; exact hk
    have hz : k < (List.zipWith resB acc (L s)).length := by rw [List.length_zipWith]; omega
    rw [List.getD_eq_getElem?_getD, List.getD_eq_getElem?_getD, List.getD_eq_getElem?_getD, List.getElem?_eq_getElem ha, List.getElem?_eq_getElem hb, List.getElem?_eq_getElem hz, List.getElem_zipWith]
    rfl
theorem resB_first (c : UInt8) : resB 122 c = c := by
  unfold resB
  by_cases h : c = 122
  · rw [if_pos (.inl h), h]
  · rw [if_neg (by simp [h]), if_pos rfl]
theorem resCols_eq (s0 : ByteArray) (ss : List ByteArray) (m : Nat) (h0 : s0.size = m) (h : good ss m) : resI (L s0) ss = resCols (s0 :: ss) m := by
  obtain ⟨i1, i2⟩ := resI_good (L s0) ss m (by rw [L_len]; exact h0) h
  apply List.ext_getElem
  · rw [i1, resCols_len]
  · intro k h1 h2
    have hk : k < m := by omega
    have e := i2 k hk
    rw [List.getD_eq_getElem?_getD, List.getElem?_eq_getElem h1] at e
    have e2 : (resCols (s0 :: ss) m)[k] = colL (s0 :: ss) k := by
      show (List.map (colL (s0 :: ss)) (List.range m))[k]'(by simpa using hk) = _
      rw [List.getElem_map, List.getElem_range]
    rw [e2]
    unfold colL
    rw [List.foldl_cons, resB_first]
    exact e
theorem SL_split {a : Option Addr} {n : Nat} {ss : List ByteArray} {w : World} (hS : SL a n ss w) (h1 : 1 ≤ n) : ∃ b off s0 t, a = some ⟨b, off, none⟩ ∧ ss = s0 :: t ∧ t.length + 1 = n ∧ w.cell? ⟨b, off, none⟩ = some (.string s0) ∧ ∀ i, (h : i < t.length) → w.cell? ⟨b, off + 1 + i, none⟩ = some (.string t[i]) := by
  obtain ⟨hl, h | ⟨b, off, rfl, hc⟩⟩ := hS
  · omega
  · cases ss with
    | nil => simp at hl; omega
    | cons s0 t =>
      refine ⟨b, off, s0, t, rfl, rfl, by simpa using hl, hc 0 (by simp), fun i hi => ?_⟩
      have := hc (i + 1) (by simp; omega)
      rw [show off + 1 + i = off + (i + 1) by omega]; exact this
/-- What Resolve answers. -/
def resTop (ss : List ByteArray) : List UInt8 :=
  if ss.length = 0 ∨ 4096 < ss.length then [] else match ss with
    | [] => []
    | s0 :: t => if Vb.okV (L s0) then resI (L s0) t else []
theorem resTop_0 {ss : List ByteArray} (h : ss.length = 0 ∨ 4096 < ss.length) : resTop ss = [] := by unfold resTop; rw [if_pos h]
theorem resTop_1 {s0 : ByteArray} {t : List ByteArray} (h : ¬ ((s0 :: t).length = 0 ∨ 4096 < (s0 :: t).length)) : resTop (s0 :: t) = if Vb.okV (L s0) then resI (L s0) t else [] := by unfold resTop; rw [if_neg h]
set_option maxHeartbeats 400000 in
theorem iResolve_0 (a : Option Addr) (n cap : Nat) (w : World) (h : n = 0 ∨ 4096 < n) :
    Calls Try.prog 33 #[.slice a n cap] w fun e w' => e = .returned (.string (S [])) ∧ Below w.heap.size w w' := by
  rcases h with rfl | h
  · go_enter Try.func33, Try.ntmps33
    go_wp2
    go_ret
    exact ⟨rfl, brf _⟩
  · have ne0 : ((n : Int) == 0) = false := by simp; omega
    have ng : (4096 : Int) < (n : Int) := by omega
    go_enter Try.func33, Try.ntmps33
    go_wp2
    go_ret
    exact ⟨rfl, brf _⟩
set_option maxHeartbeats 400000 in
theorem iResolve_x (b off n cap : Nat) (s0 : ByteArray) (w : World) (hc0 : w.cell? ⟨b, off, none⟩ = some (.string s0)) (h1 : 1 ≤ n) (hn : n ≤ 4096) (hz0 : s0.size ≤ maxLen) (hv0 : Vb.okV (L s0) = false) :
    Calls Try.prog 33 #[.slice (some ⟨b, off, none⟩) n cap] w fun e w' => e = .returned (.string (S [])) ∧ Below w.heap.size w w' := by
  have ne0 : ((n : Int) == 0) = false := by simp; omega
  have ng : decide (4096 < (n : Int)) = false := by simp; omega
  have j0 : (0 : Int) < (n : Int) := by omega
  have HV := hide hv0
  clear hv0
  go_enter Try.func33, Try.ntmps33
  go_wp2_with fail
  refine (iVecOf_no s0 _ hz0 (unhide HV)).mono ?_
  rintro e w1 ⟨rfl, hb1⟩
  unfold V
  go_wp2
  go_ret
  exact ⟨rfl, bal hb1 _⟩
theorem iResolveT (a : Option Addr) (n cap : Nat) (ss : List ByteArray) (w : World) (hS : SL a n ss w) (hcap : n ≤ cap) (hz : ∀ s ∈ ss, s.size ≤ maxLen) :
    Calls Try.prog 33 #[.slice a n cap] w fun e w' => e = .returned (.string (S (resTop ss))) ∧ Below w.heap.size w w' := by
  by_cases h0 : n = 0 ∨ 4096 < n
  · rw [resTop_0 (by rw [hS.1]; exact h0)]
    exact iResolve_0 a n cap w h0
  · obtain ⟨b, off, s0, t, rfl, rfl, hl, hc0, hc⟩ := SL_split hS (by omega)
    rw [resTop_1 (by rw [hS.1]; exact h0)]
    cases hv : Vb.okV (L s0)
    · simp only [Bool.false_eq_true, if_false]
      exact iResolve_x b off n cap s0 w hc0 (by omega) (by omega) (hz s0 (by simp)) hv
    · simp only [if_true]
      exact iResolve b off n cap t s0 w hl hc0 hc (by omega) hcap (hz s0 (by simp)) (fun s hs => hz s (by simp [hs])) hv
theorem sResolveT (a : Option Addr) (n cap : Nat) (ss : List ByteArray) (w : World) (hS : SL a n ss w) (hz : ∀ s ∈ ss, s.size ≤ maxLen) :
    Calls Try.prog 32 #[.slice a n cap] w fun e w' => e = .returned (.string (S (resTop ss))) ∧ Below w.heap.size w w' := by
  by_cases h0 : n = 0 ∨ 4096 < n
  · rw [resTop_0 (by rw [hS.1]; exact h0)]
    exact sResolve_0 a n cap w h0
  · have hS' := hS
    obtain ⟨b, off, s0, t, rfl, rfl, hl, hc0, hc⟩ := SL_split hS (by omega)
    rw [resTop_1 (by rw [hS.1]; exact h0)]
    obtain ⟨_, h | ⟨b', off', e, hc'⟩⟩ := hS'
    · omega
    · simp only [Option.some.injEq, Addr.mk.injEq, and_true] at e
      obtain ⟨rfl, rfl⟩ := e
      by_cases hg : good (s0 :: t) s0.size
      · have hv := (hg s0 (by simp)).1
        have hgt : good t s0.size := fun s hs => hg s (by simp [hs])
        simp only [hv, if_true]
        rw [resCols_eq s0 t s0.size rfl hgt]
        exact sResolve b off n cap s0.size (s0 :: t) w (by simpa using hl) hc' (by omega) (by omega) (fun s hs => (hg s hs).1) (fun s hs => (hg s hs).2) ((okV_iff s0).1 hv).2.1
      · have hr := sResolve_no b off n cap s0.size (s0 :: t) w (by simpa using hl) hc' (by omega) (by omega) hz rfl hg
        cases hv : Vb.okV (L s0)
        · simp only [Bool.false_eq_true, if_false]; exact hr
        · simp only [if_true]
          rw [resI_bad (L s0) t s0.size (L_len s0) (fun ht => hg (fun s hs => by
            rcases List.mem_cons.1 hs with rfl | hs
            · exact ⟨hv, rfl⟩
            · exact ht s hs))]
          exact hr
set_option maxRecDepth 100000 in
set_option maxHeartbeats 400000 in
theorem lResolve (a : Option Addr) (n cap : Nat) (ss : List ByteArray) (w : World) (hS : SL a n ss w) (hn : n ≤ maxLen) (hz : ∀ s ∈ ss, s.size ≤ maxLen) :
    Calls Try.prog 12 #[.slice a n cap] w fun e w' => e = .returned (.bool true) ∧ Below w.heap.size w w' := by
  go_enter Try.func12, Try.ntmps12
  go_wp2_with fail
  refine (szS a n cap ss _ hS hn hz).mono ?_
  rintro e w1 ⟨⟨r, rfl, hr⟩, rfl⟩
  have HR := hide hr
  clear hr
  by_cases hneg : r < 0
  · go_wp2
    go_ret
    exact ⟨rfl, brf _⟩
  · obtain ⟨hn2, hz2⟩ := unhide HR (by omega)
    have HZ1 := hide hz
    clear hz hz2 HR
    go_wp2_with fail
    refine (toS a n cap ss _ hS hn2).mono ?_
    rintro e w2 ⟨rfl, rfl⟩
    go_wp2_with fail
    refine (sResolveT _ n n ss _ (SL_made ss n w hS.1) (unhide HZ1)).mono ?_
    rintro e w1 ⟨rfl, hbb⟩
    have hb1 : Below w.heap.size w w1 := btr (bal (brf w) _) hbb
    have S1 := SL_later hb1 hS
    go_wp2_with fail
    refine (toS a n cap ss _ S1 hn2).mono ?_
    rintro e w2 ⟨rfl, rfl⟩
    have S2 := SL_made ss n w1 hS.1
    have S3 := SL_later (bal (brf w1) (.cells (srow ss n n) 9)) S1
    have hb2 : Below w.heap.size w (w1.alloc (.cells (srow ss n n) 9)) := bal hb1 _
    generalize w1.alloc (.cells (srow ss n n) 9) = w2 at *
    go_wp2_with fail
    refine (iResolveT _ n n ss _ S2 (Nat.le_refl _) (unhide HZ1)).mono ?_
    rintro e w3 ⟨rfl, hb3⟩
    have S4 := SL_later hb3 S2
    have S5 := SL_later hb3 S3
    have hb4 := btr hb2 hb3
    generalize S (resTop ss) = J
    go_wp2_with fail
    refine (toS a n cap ss _ S5 hn2).mono ?_
    rintro e w4 ⟨rfl, rfl⟩
    have S6 := SL_made ss n w3 hS.1
    have S7 := SL_later (bal (brf w3) (.cells (srow ss n n) 9)) S4
    have hb5 : Below w.heap.size w (w3.alloc (.cells (srow ss n n) 9)) := bal hb4 _
    generalize w3.alloc (.cells (srow ss n n) 9) = w4 at *
    go_wp2_with fail
    refine (eqS _ _ n n n ss _ S7 S6 hn2).mono ?_
    rintro e w5 ⟨rfl, hb6⟩
    go_wp2
    go_ret
    exact ⟨rfl, btr hb5 hb6⟩
end Go.Proofs.Ytmbllgblbdfobaa
