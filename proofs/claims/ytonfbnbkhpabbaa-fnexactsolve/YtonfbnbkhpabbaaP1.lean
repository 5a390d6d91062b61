/- The program's value, literalPlace, assume, takeBack. -/
import Derived.Test.YtonfbnbkhpabbaaM1
namespace Go.Proofs.Ytonfbnbkhpabbaa
open Go Go.RowKit Gs
set_option linter.unusedVariables false
set_option linter.unusedSimpArgs false
set_option maxRecDepth 100000
theorem FM.cell {B n : Nat} {ex : Option Nat} {W : World} {s : FS} (h : FM B n ex W s) (i : Nat) (v : Value) (hi : (s.flds n)[i]? = some v) : W.cell? ⟨s.b, i, none⟩ = some v := by
  simp only [World.cell?, h.hb]; exact hi
section
variable {B n : Nat} {ex : Option Nat} {W : World} {s : FS}
theorem FM.q0 (h : FM B n ex W s) : W.cell? ⟨s.b, 0, none⟩ = some (.slice (some ⟨s.vb, 0, none⟩) (n + 1) (n + 1)) := h.cell 0 _ rfl
theorem FM.q1 (h : FM B n ex W s) : W.cell? ⟨s.b, 1, none⟩ = some s.tv := h.cell 1 _ rfl
theorem FM.q2 (h : FM B n ex W s) : W.cell? ⟨s.b, 2, none⟩ = some (.int .i64 (s.fol : Int)) := h.cell 2 _ rfl
theorem FM.q3 (h : FM B n ex W s) : W.cell? ⟨s.b, 3, none⟩ = some (.slice (some ⟨s.ob, 0, none⟩) (2 * n + 2) (2 * n + 2)) := h.cell 3 _ rfl
theorem FM.q4 (h : FM B n ex W s) : W.cell? ⟨s.b, 4, none⟩ = some (.int .i64 (s.rnd : Int)) := h.cell 4 _ rfl
theorem FM.q5 (h : FM B n ex W s) : W.cell? ⟨s.b, 5, none⟩ = some (.slice (some ⟨s.mb, 0, none⟩) (2 * n + 2) (2 * n + 2)) := h.cell 5 _ rfl
theorem FM.q6 (h : FM B n ex W s) : W.cell? ⟨s.b, 6, none⟩ = some (.bool s.brk) := h.cell 6 _ rfl
end
theorem FM.frz {B n : Nat} {ex : Option Nat} {W : World} {s : FS} (h : FM B n ex W s) (i : Nat) : W.frozen? ⟨s.b, i, none⟩ = false := by
  simp [World.frozen?, h.hb]
set_option maxHeartbeats 1600000 in
theorem iPl (n : Nat) (l : Int) (w : World) (hl : Lit n l) (hn : n ≤ 2048) : Calls Try.prog 49 #[.int .i64 l] w fun e w' => e = .returned (.int .i64 (plN l : Int)) ∧ w' = w := by
  obtain ⟨h0, h1, h2⟩ := hl
  go_enter Try.func49, Try.ntmps49
  by_cases h : l < 0
  · have HE : Hid ((plN l : Int) = -2 * l + 1) := hide (by unfold plN; rw [if_pos h]; omega)
    go_wp2
    exact bodyPost_ret (v := .int .i64 (-2 * l + 1)) (by simp [results, Try.results49, go_sem]) rfl ⟨by rw [unhide HE], rfl⟩
  · have HE : Hid ((plN l : Int) = 2 * l) := hide (by unfold plN; rw [if_neg h]; omega)
    go_wp2
    exact bodyPost_ret (v := .int .i64 (2 * l)) (by simp [results, Try.results49, go_sem]) rfl ⟨by rw [unhide HE], rfl⟩
set_option maxHeartbeats 3200000 in
theorem iValue {B n : Nat} {ex : Option Nat} {W : World} {s : FS} (h : FM B n ex W s) (hvr : VR n s.t s.vs) {l : Int} (hl : Lit n l) (hn : n ≤ 2048) : Calls Try.prog 50 #[.pointer (some ⟨s.b, 0, none⟩), .int .i64 l] W fun e w' => e = .returned (.int .i64 (val s.vs l)) ∧ w' = W := by
  have q0 := h.q0
  have hr := hvr.three hl
  obtain ⟨h0, h1, h2⟩ := hl
  have hk := iC_cell h.hv (getD_some (i := l.natAbs) (by rw [h.lv]; omega))
  go_enter Try.func50, Try.ntmps50
  by_cases hneg : l < 0
  · have hv := val_negl (vs := s.vs) hneg
    have HV := hide hv
    obtain ⟨k, hk1⟩ : ∃ k : Nat, k = l.natAbs := ⟨_, rfl⟩
    rw [← hk1] at hk HV hv
    have e1 : -l = (k : Int) := by omega
    have k1 : (0 : Int) ≤ (k : Int) := by omega
    have k2 : (k : Int) < ((n + 1 : Nat) : Int) := by omega
    rw [hv] at hr
    clear hv
    generalize s.vs.getD k 0 = x at *
    clear hk1 h hvr
    go_wp2
    exact bodyPost_ret (v := .int .i64 (-x)) (by simp [results, Try.results50, go_sem]) rfl ⟨by rw [unhide HV], rfl⟩
  · have hv := val_pos (vs := s.vs) hneg
    have HV := hide hv
    obtain ⟨k, hk1⟩ : ∃ k : Nat, k = l.natAbs := ⟨_, rfl⟩
    rw [← hk1] at hk HV hv
    have e1 : l = (k : Int) := by omega
    have k1 : (0 : Int) ≤ (k : Int) := by omega
    have k2 : (k : Int) < ((n + 1 : Nat) : Int) := by omega
    rw [hv] at hr
    clear hv
    generalize s.vs.getD k 0 = x at *
    clear hk1 h hvr
    subst e1
    go_wp2
    exact bodyPost_ret (v := .int .i64 x) (by simp [results, Try.results50, go_sem]) rfl ⟨by rw [unhide HV], rfl⟩
theorem FM.tshape {B n : Nat} {ex : Option Nat} {W : World} {s : FS} (h : FM B n ex W s) : ∃ a c, s.tv = .slice a s.t.length c := by
  rcases h.ht.2 with ⟨hv, hn⟩ | ⟨g, cap, cur, hv, _⟩
  · exact ⟨none, 0, by rw [hv, hn]⟩
  · exact ⟨_, _, hv⟩
/-- An append that tells in which block its answer lies. -/
theorem wpAppAt {ops : Array Oper} {rest : List Oper} {o : Oper} {a : Act} {Q : Exit → Act → World → Prop} {w : World} (hgd : o.guard = none) (s x : Operand) (t : TypeId)
    (ho : o.op = .call { callee := .builtin .append, args := #[s, x], argTypes := #[t, t] })
    (base : Nat) (e : TypeId) (i : TypeInfo) (z : Value) (size bytes : Nat) (ht : Try.prog.underlying t = some (.slice e)) (hi : Try.prog.info? e = some i) (hz : i.zero = some z)
    (hsize : i.size = size) (hby : i.bytes = bytes) (hzs : z.cells.size = size) (hsz : 0 < size)
    (v : Value) (n : Nat) (xs : List Value) (hs : a.eval s = v) (hown : w.ownsRow base e size v n xs)
    (ad : Addr) (m c : Nat) (news : List Value) (hx : a.eval x = .slice (some ad) m c) (hl : news.length = m * size) (hnews : ∀ j u, news[j]? = some u → w.cell? (ad.add j) = some u) (h1 : ∀ u ∈ news, u.oneCell' = true)
    (h63 : n + m ≤ maxLen) (hbytes : (n + m) * bytes ≤ 140737488355328) (hbase : base ≤ w.heap.size)
    (h : ∀ v' w', w'.ownsRow base e size v' (n + m) (xs ++ news) → w.grownBy w' v.ownBlock → (v'.ownBlock = v.ownBlock ∨ v'.ownBlock = some w.heap.size) → wpList Try.prog ops Q rest (a.put o.dst v') w') : wpList Try.prog ops Q (o :: rest) a w := by
  obtain ⟨v', w', hr, k1, k2, _, k3⟩ := run_append_own_at (P := Try.prog) w base t o.type e i z size bytes ht hi hz hsize hby hzs hsz v n xs hown ad m c news hl hnews h1 h63 hbytes hbase
  refine wpList_plain hgd fun K hK' => ?_
  unfold Oper.wp
  simp [execOp, ho, resolve, invoke, builtin, hs, hx, hr, Result.andThen]
  exact hK' _ _ (h v' w' k1 k2 k3)
theorem own_shape {W : World} {B e k n : Nat} {v : Value} {xs : List Value} (h : W.ownsRow B e k v n xs) : ∃ a c, v = .slice a n c := by
  rcases h.2 with ⟨hv, hn⟩ | ⟨g, cap, cur, hv, _⟩
  · exact ⟨none, 0, by rw [hv, hn]⟩
  · exact ⟨_, _, hv⟩
theorem one_int (l : Int) : ∀ u ∈ [Value.int .i64 l], u.oneCell' = true := by intro u hu; simp at hu; subst hu; rfl
theorem at_int (w : World) (l : Int) (g : Nat) (hg : g = w.heap.size) : ∀ j u, [Value.int .i64 l][j]? = some u → (w.alloc (.cells #[.int .i64 l] 3)).cell? ((⟨g, 0, none⟩ : Addr).add j) = some u := by
  intro j u hj
  subst hg
  rw [Addr.add_lit, Nat.zero_add, World.cell?_alloc_new]
  simpa using hj
theorem info3 : (Try.prog.info? 3).map (fun i => (i.zero, i.size, i.bytes)) = some (some (.int .i64 0), 1, 8) := by kernel_rfl
set_option maxHeartbeats 6400000 in
theorem iAssume {B n : Nat} {ex : Option Nat} {w W : World} {s : FS} (h : FM B n ex W s) (hbw : Below B w W) (hBW : B ≤ W.heap.size) (hvr : VR n s.t s.vs) (ht : TrOK n s.t) {l : Int} (hl : Lit n l) (hn : n ≤ 2048) : Calls Try.prog 43 #[.pointer (some ⟨s.b, 0, none⟩), .int .i64 l] W fun e w' => (l ∈ s.t ∧ e = .returned (.bool true) ∧ w' = W) ∨ (-l ∈ s.t ∧ e = .returned (.bool false) ∧ w' = W) ∨ (Opn s.t l ∧ e = .returned (.bool true) ∧ Below B w w' ∧ W.heap.size ≤ w'.heap.size ∧ ∃ v', FM B n ex w' { s with vs := put s.vs l, t := s.t ++ [l], tv := v' }) := by
  have HV := hide (iValue h hvr hl hn)
  have h3 := hvr.three hl
  by_cases e1 : val s.vs l = 1
  · have hm := hvr.one hl e1
    have HM := hide hm
    rw [e1] at HV
    clear h hvr h3 hm ht
    go_enter Try.func43, Try.ntmps43
    go_wp2_with fail
    refine (unhide HV).mono ?_
    rintro e W1 ⟨rfl, hw⟩
    have hw' := hw.symm
    subst hw'
    go_wp2
    exact bodyPost_ret (v := .bool true) (by simp [results, Try.results43, go_sem]) rfl (.inl ⟨unhide HM, rfl, rfl⟩)
  · by_cases e2 : val s.vs l = -1
    · have hm := hvr.mone hl e2
      have HM := hide hm
      rw [e2] at HV
      clear h hvr h3 hm ht
      go_enter Try.func43, Try.ntmps43
      go_wp2_with fail
      refine (unhide HV).mono ?_
      rintro e W1 ⟨rfl, hw⟩
      have hw' := hw.symm
      subst hw'
      go_wp2
      exact bodyPost_ret (v := .bool false) (by simp [results, Try.results43, go_sem]) rfl (.inr (.inl ⟨unhide HM, rfl, rfl⟩))
    · have e0 : val s.vs l = 0 := by omega
      rw [e0] at HV
      have HO := hide (hvr.open hl e0)
      have q0 := h.q0
      have q1 := h.q1
      have htl := ht.len
      obtain ⟨ta, tc, htv⟩ := h.tshape
      rw [htv] at q1
      obtain ⟨h0, h1, h2⟩ := id hl
      obtain ⟨k, hk1⟩ : ∃ k : Nat, k = l.natAbs := ⟨_, rfl⟩
      have hkl : k < s.vs.length := by rw [h.lv]; omega
      have hk := iC_cell h.hv (getD_some (i := k) hkl)
      have hfz := iC_frz (i := k) h.hv
      have hmx : max l (-l) = (k : Int) := by omega
      have hsg : max (-1) (min l 1) = sgn l := by unfold sgn; split <;> omega
      have k1 : (0 : Int) ≤ (k : Int) := by omega
      have k2 : (k : Int) < ((n + 1 : Nat) : Int) := by omega
      -- the world behind the store
      obtain ⟨W2, hW2⟩ : ∃ W2, W2 = W.setCell ⟨s.vb, k, none⟩ (.int .i64 (sgn l)) := ⟨_, rfl⟩
      have h2' : FM B n ex W2 { s with vs := put s.vs l } := by
        rw [hW2]
        refine h.vals (put s.vs l) (by unfold put; simp) ?_ (fun j hj => Below.heap_setCell W ⟨s.vb, k, none⟩ _ j hj)
        rw [iC_set h.hv]; unfold put; rw [hk1]
      have H2 := hide h2'
      have HB2 : Hid (Below B w W2) := hide (by rw [hW2]; exact hbw.setCell (p := ⟨s.vb, k, none⟩) h.lo.2.1 _)
      have HS2 : Hid (W2.heap.size = W.heap.size) := hide (by rw [hW2]; simp)
      have HW2 := hide hW2
      have p1 : W2.cell? ⟨s.b, 1, none⟩ = some (.slice ta s.t.length tc) := by rw [← htv]; exact h2'.q1
      have HTV := hide htv
      have HBW := hide hBW
      clear hvr h3 e1 e2 h2' htv hW2
      generalize s.vs.getD k 0 = x at *
      obtain ⟨i0, hi, hz0, hz1, hz2⟩ := info_parts info3
      have HI := hide (And.intro hi (And.intro hz0 (And.intro hz1 hz2)))
      clear hi hz0 hz1 hz2
      -- what comes behind the store
      have FIN : Hid (∀ (v' : Value) (w3 : World), w3.ownsRow B 3 1 v' (s.t.length + 1) (iL s.t ++ [.int .i64 l]) → (W2.alloc (.cells #[.int .i64 l] 3)).grownBy w3 (Value.slice ta s.t.length tc).ownBlock → (v'.ownBlock = (Value.slice ta s.t.length tc).ownBlock ∨ v'.ownBlock = some (W2.alloc (.cells #[.int .i64 l] 3)).heap.size) → Below B w (w3.setCell ⟨s.b, 1, none⟩ v') ∧ W.heap.size ≤ (w3.setCell ⟨s.b, 1, none⟩ v').heap.size ∧ FM B n ex (w3.setCell ⟨s.b, 1, none⟩ v') { s with vs := put s.vs l, t := s.t ++ [l], tv := v' }) := hide (by
        intro v' w3 hown hg hblk
        have hF := (unhide H2).later (bal (brf W2) (.cells #[.int .i64 l] 3))
        rw [← unhide HTV] at hg hblk
        have hP := FM.push (l := l) hF hown hg hblk
        have hbl : Below B w w3 := ((unhide HB2).alloc (by rw [unhide HS2]; exact unhide HBW) _).grown hg (by rw [World.size_alloc, unhide HS2]; have := unhide HBW; omega) (fun j hj => (World.ownsRow.lt hF.ht j hj).1)
        refine ⟨hbl.setCell (p := ⟨s.b, 1, none⟩) h.lo.1 _, ?_, hP⟩
        have := hg.size
        rw [World.size_alloc, unhide HS2] at this
        simp; omega)
      have HOWN : Hid ((W2.alloc (.cells #[.int .i64 l] 3)).ownsRow B 3 1 (.slice ta s.t.length tc) s.t.length (iL s.t)) := hide (by rw [← unhide HTV]; exact ((unhide H2).later (bal (brf W2) (.cells #[.int .i64 l] 3))).ht)
      have HF1 : Hid (∀ v' w3, (w3.ownsRow B 3 1 v' (s.t.length + 1) (iL s.t ++ [.int .i64 l])) → (W2.alloc (.cells #[.int .i64 l] 3)).grownBy w3 (Value.slice ta s.t.length tc).ownBlock → (∃ y, w3.cell? ⟨s.b, 1, none⟩ = some y) ∧ w3.frozen? ⟨s.b, 1, none⟩ = false) := hide (by
        intro v' w3 _ hg
        have hF := (unhide H2).later (bal (brf W2) (.cells #[.int .i64 l] 3))
        rw [← unhide HTV] at hg
        have hk : w3.heap[s.b]? = (W2.alloc (.cells #[.int .i64 l] 3)).heap[s.b]? := hg.block _ (heap_lt hF.hb) (fun e => by
          obtain ⟨o, h2⟩ := own_ty hF.ht e.symm
          exact ty_ne hF.hb h2 (by decide) rfl)
        exact ⟨⟨_, (World.cell?_of_block (a := ⟨s.b, 1, none⟩) hk).trans hF.q1⟩, (World.frozen?_of_block (a := ⟨s.b, 1, none⟩) hk).trans (hF.frz 1)⟩)
      have HLB := hide (show B ≤ (W2.alloc (.cells #[.int .i64 l] 3)).heap.size by rw [World.size_alloc, unhide HS2]; have := unhide HBW; omega)
      have htl4 : s.t.length ≤ 4194304 := by omega
      clear h hbw hBW ht
      have hcase : l = -(k : Int) ∨ (l = 1 ∧ k = 1) ∨ (1 < l ∧ l = (k : Int)) := by omega
      have hkp : 1 ≤ k := by omega
      clear hmx hk1 h0
      rcases hcase with hc | ⟨hc, hk1'⟩ | ⟨hc, hc2⟩
      · have hs : sgn l = -1 := by unfold sgn; rw [if_pos (by omega)]
        rw [hs] at HW2
        clear hsg
        subst hc
        have hW2 := unhide HW2
        subst hW2
        clear HW2
        go_enter Try.func43, Try.ntmps43
        go_wp2_with fail
        refine (unhide HV).mono ?_
        rintro e W1 ⟨rfl, hw⟩
        have hw' := hw.symm
        subst hw'
        go_wp2_with (first
          | (at_builtin; refine wpAppAt rfl _ _ 24 rfl B 3 i0 (.int .i64 0) 1 8 Try.underlying24 (unhide HI).1 (unhide HI).2.1 (unhide HI).2.2.1 (unhide HI).2.2.2 rfl (by decide) _ _ _ rfl (unhide HOWN) ⟨W.heap.size, 0, none⟩ 1 1 [.int .i64 (-(k : Int))] rfl rfl (at_int _ _ _ (by simp)) (one_int _) (by unfold maxLen; omega) (by omega) (unhide HLB) ?_; intro v' w3 k1' k2' k3'; obtain ⟨a', c', hsh⟩ := own_shape k1'; subst hsh; obtain ⟨⟨yy, hyy⟩, hff⟩ := unhide HF1 _ w3 k1' k2'; have HFN := hide (unhide FIN _ w3 k1' k2' k3'); clear k1' k2' k3')
          | go_in)
        exact bodyPost_ret (v := .bool true) (by simp [results, Try.results43, go_sem]) rfl (.inr (.inr ⟨unhide HO, rfl, (unhide HFN).1, (unhide HFN).2.1, _, (unhide HFN).2.2⟩))
      · have hs : sgn l = 1 := by unfold sgn; rw [if_neg (by omega)]
        rw [hs] at HW2
        clear hsg
        subst hc
        subst hk1'
        have hW2 := unhide HW2
        subst hW2
        clear HW2
        go_enter Try.func43, Try.ntmps43
        go_wp2_with fail
        refine (unhide HV).mono ?_
        rintro e W1 ⟨rfl, hw⟩
        have hw' := hw.symm
        subst hw'
        go_wp2_with (first
          | (at_builtin; refine wpAppAt rfl _ _ 24 rfl B 3 i0 (.int .i64 0) 1 8 Try.underlying24 (unhide HI).1 (unhide HI).2.1 (unhide HI).2.2.1 (unhide HI).2.2.2 rfl (by decide) _ _ _ rfl (unhide HOWN) ⟨W.heap.size, 0, none⟩ 1 1 [.int .i64 (1)] rfl rfl (at_int _ _ _ (by simp)) (one_int _) (by unfold maxLen; omega) (by omega) (unhide HLB) ?_; intro v' w3 k1' k2' k3'; obtain ⟨a', c', hsh⟩ := own_shape k1'; subst hsh; obtain ⟨⟨yy, hyy⟩, hff⟩ := unhide HF1 _ w3 k1' k2'; have HFN := hide (unhide FIN _ w3 k1' k2' k3'); clear k1' k2' k3')
          | go_in)
        exact bodyPost_ret (v := .bool true) (by simp [results, Try.results43, go_sem]) rfl (.inr (.inr ⟨unhide HO, rfl, (unhide HFN).1, (unhide HFN).2.1, _, (unhide HFN).2.2⟩))
      · have hs : sgn l = 1 := by unfold sgn; rw [if_neg (by omega)]
        rw [hs] at HW2
        clear hsg
        subst hc2
        have hW2 := unhide HW2
        subst hW2
        clear HW2
        go_enter Try.func43, Try.ntmps43
        go_wp2_with fail
        refine (unhide HV).mono ?_
        rintro e W1 ⟨rfl, hw⟩
        have hw' := hw.symm
        subst hw'
        go_wp2_with (first
          | (at_builtin; refine wpAppAt rfl _ _ 24 rfl B 3 i0 (.int .i64 0) 1 8 Try.underlying24 (unhide HI).1 (unhide HI).2.1 (unhide HI).2.2.1 (unhide HI).2.2.2 rfl (by decide) _ _ _ rfl (unhide HOWN) ⟨W.heap.size, 0, none⟩ 1 1 [.int .i64 ((k : Int))] rfl rfl (at_int _ _ _ (by simp)) (one_int _) (by unfold maxLen; omega) (by omega) (unhide HLB) ?_; intro v' w3 k1' k2' k3'; obtain ⟨a', c', hsh⟩ := own_shape k1'; subst hsh; obtain ⟨⟨yy, hyy⟩, hff⟩ := unhide HF1 _ w3 k1' k2'; have HFN := hide (unhide FIN _ w3 k1' k2' k3'); clear k1' k2' k3')
          | go_in)
        exact bodyPost_ret (v := .bool true) (by simp [results, Try.results43, go_sem]) rfl (.inr (.inr ⟨unhide HO, rfl, (unhide HFN).1, (unhide HFN).2.1, _, (unhide HFN).2.2⟩))
end Go.Proofs.Ytonfbnbkhpabbaa
namespace Go.Proofs.Ytonfbnbkhpabbaa
open Go Go.RowKit Gs
set_option linter.unusedVariables false
set_option linter.unusedSimpArgs false
set_option maxRecDepth 100000
theorem wipe_snoc (vs ls : List Int) (l : Int) : wipe vs (ls ++ [l]) = (wipe vs ls).set l.natAbs 0 := by
  unfold wipe; rw [List.foldl_append]; rfl
theorem own_take {W : World} {B e g n c : Nat} {xs : List Value} (h : W.ownsRow B e 1 (.slice (some ⟨g, 0, none⟩) n c) n xs) {m : Nat} (hm : m ≤ n) : W.ownsRow B e 1 (.slice (some ⟨g, 0, none⟩) m c) m (xs.take m) := by
  obtain ⟨h1, ⟨h2, _⟩ | ⟨g', cap, cur, hv, hb, hg, hlc, hcm, hcs, htk⟩⟩ := h
  · cases h2
  · injection hv with e1 e2 e3
    injection e1 with e4
    injection e4 with e5 _
    subst e5 e3
    refine ⟨by rw [List.length_take, h1]; omega, .inr ⟨g, c, cur, rfl, hb, hg, by omega, hcm, hcs, ?_⟩⟩
    rw [← htk, List.take_take]
    congr 1
    omega
/-- The trail's row is shorter. -/
theorem FM.cut {B n : Nat} {W : World} {s : FS} (h : FM B n none W s) (m : Nat) {v' : Value} (hown : W.ownsRow B 3 1 v' m (iL (s.t.take m))) (hm : m ≤ s.t.length) (hb : ∀ j, v'.ownBlock = some j → s.tv.ownBlock = some j) : FM B n none ((W.setCell ⟨s.b, 1, none⟩ v').setCell ⟨s.b, 2, none⟩ (.int .i64 (m : Int))) { s with t := s.t.take m, tv := v', fol := m } := by
  have hbb : ((W.setCell ⟨s.b, 1, none⟩ v').setCell ⟨s.b, 2, none⟩ (.int .i64 (m : Int))).heap[s.b]? = some (.cells ({ s with t := s.t.take m, tv := v', fol := m }.flds n) 53) := by
    rw [heap_set (heap_set h.hb)]; rfl
  have ho : ∀ k, k ≠ s.b → ((W.setCell ⟨s.b, 1, none⟩ v').setCell ⟨s.b, 2, none⟩ (.int .i64 (m : Int))).heap[k]? = W.heap[k]? := fun k hk => (Below.heap_setCell (W.setCell ⟨s.b, 1, none⟩ v') ⟨s.b, 2, none⟩ _ k hk).trans (Below.heap_setCell W ⟨s.b, 1, none⟩ v' k hk)
  have hk : ∀ (k : Nat) (o : Array Value) (t : TypeId), t ≠ 53 → W.heap[k]? = some (.cells o t) → ((W.setCell ⟨s.b, 1, none⟩ v').setCell ⟨s.b, 2, none⟩ (.int .i64 (m : Int))).heap[k]? = some (.cells o t) := fun k o t hne hc => (ho k (ty_ne hc h.hb hne)).trans hc
  refine ⟨h.lo, hbb, hk _ _ _ (by decide) h.hv, hk _ _ _ (by decide) h.ho, hk _ _ _ (by decide) h.hm, ?_, fun p hp he => ownsRow_keep (h.hw p hp he) (fun g o _ hc => hk _ _ _ (by decide) hc), fun i hi => ?_, h.d1, fun j hj => h.d2 j (hb j hj), h.d3, h.d4, fun p j hp hj => ?_, h.lv, h.lm, (fun p j he => by cases he), fun q hq => ⟨(ho q.1 (h.fz q hq).b).trans (h.fz q hq).at_, (h.fz q hq).b, (h.fz q hq).vb, (h.fz q hq).ob, (h.fz q hq).mb, fun e => (h.fz q hq).tv (hb _ e), (h.fz q hq).sv, (h.fz q hq).ids⟩⟩
  · show World.ownsRow _ B 3 1 v' (s.t.take m).length (iL (s.t.take m))
    rw [List.length_take, Nat.min_eq_left hm]
    exact ownsRow_keep hown (fun g o _ hc => hk _ _ _ (by decide) hc)
  · obtain ⟨h1, cur, h2, h3⟩ := h.hc i hi
    exact ⟨h1, cur, hk _ _ _ (by decide) h2, h3⟩
  · obtain ⟨h1, o, h2⟩ := h.d5 p j hp hj
    exact ⟨h1, o, hk _ _ _ (by decide) h2⟩
set_option maxHeartbeats 6400000 in
theorem iTakeBack {B n : Nat} {w W : World} {s : FS} (h : FM B n none W s) (hbw : Below B w W) (ht : TrOK n s.t) (m : Nat) (hm : m ≤ s.t.length) (hn : n ≤ 2048) : Calls Try.prog 47 #[.pointer (some ⟨s.b, 0, none⟩), .int .i64 (m : Int)] W fun e w' => e = .returned (.tuple #[]) ∧ Below B w w' ∧ ∃ v', FM B n none w' { s with vs := wipe s.vs (s.t.drop m), t := s.t.take m, tv := v', fol := m } := by
  have htl := ht.len
  have HL := hide ht.lits
  rcases id h.ht.2 with ⟨hv, hn0⟩ | ⟨g, cap, cur, hv, hBg, hg, hlc, hcm, hcs, htk⟩
  · -- nothing was assumed
    have ht0 : s.t = [] := List.length_eq_zero_iff.1 hn0
    have hm0 : m = 0 := by omega
    have q1 := h.q1
    rw [hv] at q1
    have qf := h.frz 1
    have qf2 := h.frz 2
    have q2 := h.q2
    have HE : Hid (Below B w ((W.setCell ⟨s.b, 1, none⟩ (.slice none 0 0)).setCell ⟨s.b, 2, none⟩ (.int .i64 0)) ∧ FM B n none ((W.setCell ⟨s.b, 1, none⟩ (.slice none 0 0)).setCell ⟨s.b, 2, none⟩ (.int .i64 0)) { s with vs := wipe s.vs (s.t.drop 0), t := s.t.take 0, tv := .slice none 0 0, fol := 0 }) := hide (by
      refine ⟨(hbw.setCell (p := ⟨s.b, 1, none⟩) h.lo.1 _).setCell (p := ⟨s.b, 2, none⟩) h.lo.1 _, ?_⟩
      have h2 := h.cut 0 (v' := .slice none 0 0) ⟨rfl, .inl ⟨rfl, rfl⟩⟩ (Nat.zero_le _) (fun j hj => by cases hj)
      rw [ht0] at h2 ⊢
      exact h2)
    subst hm0
    clear h hbw ht hv
    go_enter Try.func47, Try.ntmps47
    go_wp2
    refine wp_loop_rounds 1 ?_
    rw [rounds_succ]
    go_wp2
    exact bodyPost_end (v := .tuple #[]) (by simp [results, Try.results47, go_sem]) rfl ⟨rfl, (unhide HE).1, _, (unhide HE).2⟩
  · have q1 := h.q1
    rw [hv] at q1
    have hcm' := hcm
    unfold maxLen at hcm'
    have i1 : (m : Int) ≤ (s.t.length : Int) := by omega
    have H := hide h
    have HBW := hide hbw
    have HV := hide hv
    clear h hbw ht
    go_enter Try.func47, Try.ntmps47
    obtain ⟨dl, hdl⟩ : ∃ dl : Nat, dl = s.t.length - m := ⟨_, rfl⟩
    have hdrop : (s.t.drop m).length = dl := by rw [List.length_drop, hdl]
    have HEND : Hid (∀ wr, FM B n none wr { s with vs := wipe s.vs (s.t.drop m) } → Below B w wr → Below B w ((wr.setCell ⟨s.b, 1, none⟩ (.slice (some ⟨g, 0, none⟩) m cap)).setCell ⟨s.b, 2, none⟩ (.int .i64 (m : Int))) ∧ FM B n none ((wr.setCell ⟨s.b, 1, none⟩ (.slice (some ⟨g, 0, none⟩) m cap)).setCell ⟨s.b, 2, none⟩ (.int .i64 (m : Int))) { s with vs := wipe s.vs (s.t.drop m), t := s.t.take m, tv := .slice (some ⟨g, 0, none⟩) m cap, fol := m }) := hide (fun wr hf hb => by
      refine ⟨(hb.setCell (p := ⟨s.b, 1, none⟩) hf.lo.1 _).setCell (p := ⟨s.b, 2, none⟩) hf.lo.1 _, hf.cut m ?_ hm (fun j hj => ?_)⟩
      · have h1 := hf.ht
        have h2 : World.ownsRow wr B 3 1 (.slice (some ⟨g, 0, none⟩) s.t.length cap) s.t.length (iL s.t) := by rw [← unhide HV]; exact h1
        have h3 := own_take h2 hm
        unfold iL at *
        rw [List.map_take]
        exact h3
      · show s.tv.ownBlock = some j
        rw [unhide HV]; exact hj)
    by_cases hcap : cap = m
    · have hd0 : dl = 0 := by omega
      have hz : s.t.drop m = [] := List.length_eq_zero_iff.1 (by omega)
      have HE := hide (unhide HEND W (by rw [hz]; exact unhide H) (unhide HBW))
      have q1b := q1
      have qf := (unhide H).frz 1
      have qf2 := (unhide H).frz 2
      have q2 := (unhide H).q2
      have hlm : s.t.length = m := by omega
      clear HEND hdrop
      have i2 : ((s.t.length - m : Nat) : Int) = 0 := by omega
      go_wp2
      refine wp_loop_rounds 1 ?_
      rw [rounds_succ]
      go_wp2
      have HE2 := unhide HE
      subst hcap
      exact bodyPost_end (v := .tuple #[]) (by simp [results, Try.results47, go_sem]) rfl ⟨rfl, HE2.1, _, HE2.2⟩
    · have HCE : Hid (∀ wr, FM B n none wr s → ∀ (j : Nat) z, (s.t.drop m)[j]? = some z → wr.cell? ⟨g, m + j, none⟩ = some (.int .i64 z)) := hide (fun wr hf j z hz => by
        have h2 : World.ownsRow wr B 3 1 (.slice (some ⟨g, 0, none⟩) s.t.length cap) s.t.length (iL s.t) := by rw [← unhide HV]; exact hf.ht
        rw [List.getElem?_drop] at hz
        have := World.ownsRow.cells h2 (g := g) rfl (m + j) (.int .i64 z) (by unfold iL; rw [List.getElem?_map, hz]; rfl)
        rw [Addr.add_lit] at this
        simpa using this)
      go_wp2
      rw [← hdl]
      go_loopw [13] (fun i wr => ∃ j : Nat, j ≤ dl ∧ i = .int .i64 (j : Int) ∧ FM B n none wr { s with vs := wipe s.vs ((s.t.drop m).take j) } ∧ Below B w wr) (fun i wr => dl - (intOf i).toNat)
      case atStart => exact ⟨0, Nat.zero_le _, rfl, by simpa [wipe] using unhide H, unhide HBW⟩
      case round =>
        obtain ⟨j, hj, rfl, hf, hb⟩ := hrel
        by_cases hjl : j < dl
        · have hz : (s.t.drop m)[j]? = some ((s.t.drop m)[j]'(by omega)) := List.getElem?_eq_getElem (by omega)
          generalize (s.t.drop m)[j]'(by omega) = z at hz
          have hzl := unhide HL z (List.mem_of_mem_drop (List.mem_of_getElem? hz))
          have c0 : wr.cell? ⟨g, m + j, none⟩ = some (.int .i64 z) := by
            have h2 : World.ownsRow wr B 3 1 (.slice (some ⟨g, 0, none⟩) s.t.length cap) s.t.length (iL s.t) := by rw [← unhide HV]; exact hf.ht
            have hz2 := hz
            rw [List.getElem?_drop] at hz2
            have := World.ownsRow.cells h2 (g := g) rfl (m + j) (.int .i64 z) (by unfold iL; rw [List.getElem?_map, hz2]; rfl)
            rw [Addr.add_lit] at this
            simpa using this
          have q0 := hf.q0
          obtain ⟨z0, z1, z2⟩ := id hzl
          obtain ⟨k, hk1⟩ : ∃ k : Nat, k = z.natAbs := ⟨_, rfl⟩
          have hkl : k < (wipe s.vs ((s.t.drop m).take j)).length := by have := hf.lv; simp only at this; omega
          have hk := iC_cell hf.hv (getD_some (i := k) hkl)
          have hfz := iC_frz (i := k) hf.hv
          have hnx : FM B n none (wr.setCell ⟨s.vb, k, none⟩ (.int .i64 0)) { s with vs := wipe s.vs ((s.t.drop m).take (j + 1)) } := by
            have := hf.vals ((wipe s.vs ((s.t.drop m).take j)).set k 0) (by simp) (iC_set hf.hv) (fun q hq => Below.heap_setCell wr ⟨s.vb, k, none⟩ _ q hq)
            rw [List.take_add_one, hz, Option.toList_some, wipe_snoc, ← hk1]
            exact this
          have HNX := hide hnx
          have HNB := hide (hb.setCell (p := ⟨s.vb, k, none⟩) hf.lo.2.1 (.int .i64 0))
          have j1 : (j : Int) < (dl : Int) := by omega
          have j2 : (0 : Int) ≤ (j : Int) := by omega
          have k1 : (0 : Int) ≤ (k : Int) := by omega
          have k2 : (k : Int) < ((n + 1 : Nat) : Int) := by omega
          simp only at hk hfz q0
          generalize (wipe s.vs ((s.t.drop m).take j)).getD k 0 = x at *
          have hcase : z = -(k : Int) ∨ z = (k : Int) := by omega
          have hkp : 1 ≤ k := by omega
          have hkn : k ≤ 2048 := by omega
          clear hf hb hz hnx HCE HEND hk1 hzl z0 z1 z2 hkl H HBW q1
          rcases hcase with rfl | rfl
          · go_wp2
            exact ⟨⟨j + 1, by omega, by go_num, unhide HNX, unhide HNB⟩, by simp [intOf]; omega⟩
          · go_wp2
            exact ⟨⟨j + 1, by omega, by go_num, unhide HNX, unhide HNB⟩, by simp [intOf]; omega⟩
        · have hje : j = dl := by omega
          rw [hje, List.take_of_length_le (by omega)] at hf
          have HE := hide (unhide HEND wr hf hb)
          have q1b : wr.cell? ⟨s.b, 1, none⟩ = some (.slice (some ⟨g, 0, none⟩) s.t.length cap) := by have := hf.q1; rw [← unhide HV]; exact this
          have qf := hf.frz 1
          have qf2 := hf.frz 2
          have q2 := hf.q2
          have j1 : ¬ (j : Int) < (dl : Int) := by omega
          simp only at qf qf2 q2
          clear hf hb HEND HCE H HBW q1
          go_wp2
          exact bodyPost_end (v := .tuple #[]) (by simp [results, Try.results47, go_sem]) rfl ⟨rfl, (unhide HE).1, _, (unhide HE).2⟩
end Go.Proofs.Ytonfbnbkhpabbaa
