/- What the program's Tokens answers: the tokens of the text, in a row of its own. -/
import Derived.Test.YtdgiidlaafbgcaaDoorTI5
namespace Go.Proofs.YtdgiidlaafbgcaaDoor
open Go.RowKit
set_option linter.unusedVariables false
def tkC (ts : List Nb.Tk) : List Value := ts.flatMap fun t => [.int .i64 (t.kind : Nat), .string (S t.text), .int .i64 (t.at_ : Nat)]
def OT (B : Nat) (v : Value) (ts : List Nb.Tk) (W : World) : Prop := W.ownsRow B 31 3 v ts.length (tkC ts)
theorem ownsRow_later {B : Nat} {v : Value} {ts : List Nb.Tk} {W W' : World} (h : OT B v ts W) (hb : Below W.heap.size W W') : OT B v ts W' := by
  rcases h with ⟨h1, h2 | ⟨g, cap, cur, hv, hg, hc, rest⟩⟩
  · exact ⟨h1, .inl h2⟩
  · exact ⟨h1, .inr ⟨g, cap, cur, hv, hg, (hb.block g (Array.getElem?_eq_some_iff.1 hc).1).trans hc, rest⟩⟩
theorem tkC_len (l : List Nb.Tk) : (tkC l).length = l.length * 3 := by
  induction l with
  | nil => rfl
  | cons t l ih =>
    have : tkC (t :: l) = [.int .i64 (t.kind : Nat), .string (S t.text), .int .i64 (t.at_ : Nat)] ++ tkC l := by simp [tkC]
    rw [this, List.length_append, ih, List.length_cons]; simp; omega
theorem news3 (W : World) (x y z : Value) (g : Nat) (hg : g = W.heap.size) : ∀ j u, [x, y, z][j]? = some u → (W.alloc (.cells #[x, y, z] 31)).cell? ((⟨g, 0, none⟩ : Addr).add j) = some u := by
  intro j u h
  subst hg
  rw [Addr.add_lit, Nat.zero_add]
  match j, h with
  | 0, h => simp at h; subst h; simp
  | 1, h => simp at h; subst h; simp
  | 2, h => simp at h; subst h; simp
  | j + 3, h => simp at h
theorem one3 (k a : Int) (t : ByteArray) : ∀ u ∈ [Value.int .i64 k, .string t, .int .i64 a], u.oneCell' = true := by
  intro u hu
  simp at hu
  rcases hu with rfl | rfl | rfl <;> rfl
theorem own_last {B : Nat} {v : Value} {l : List Nb.Tk} {x z : Value} {t : ByteArray} {W : World} (h : W.ownsRow B 31 3 v (l.length + 1) (tkC l ++ [x, .string t, z])) :
    ∃ g cap, v = .slice (some ⟨g, 0, none⟩) (l.length + 1) cap ∧ B ≤ g ∧ W.cell? ⟨g, l.length * 3 + 1, none⟩ = some (.string t) := by
  have hc := fun g hg => World.ownsRow.cells h (g := g) hg
  rcases h.2 with ⟨_, hn⟩ | ⟨g, cap, cur, rfl, hb, hg, hl, hm, _⟩
  · omega
  · have := hc g rfl (l.length * 3 + 1) (.string t) (by rw [List.getElem?_append_right (by rw [tkC_len]; omega), tkC_len, show l.length * 3 + 1 - l.length * 3 = 1 by omega]; rfl)
    rw [Addr.add_lit, Nat.zero_add] at this
    exact ⟨g, cap, rfl, hb, this⟩
theorem wrap_add (b N : Nat) (h : b + N ≤ 65536) : wrap64 ((b : Int) + (N : Int)) = ((b + N : Nat) : Int) := by
  unfold wrap64; omega
theorem info31 : (Tryd.prog.info? 31).map (fun i => (i.zero, i.size, i.bytes)) = some (some (.agg #[.int .i64 0, .string ByteArray.empty, .int .i64 0]), 3, 32) := by kernel_rfl
theorem OT_step {B : Nat} {v : Value} {l : List Nb.Tk} {t : Nb.Tk} {W : World} (h : W.ownsRow B 31 3 v (l.length + 1) (tkC l ++ [.int .i64 (t.kind : Nat), .string (S t.text), .int .i64 (t.at_ : Nat)])) : OT B v (l ++ [t]) W := by
  unfold OT
  rw [List.length_append]
  have : tkC (l ++ [t]) = tkC l ++ [.int .i64 (t.kind : Nat), .string (S t.text), .int .i64 (t.at_ : Nat)] := by simp [tkC]
  rw [this]; exact h
theorem OT_nil (B : Nat) (W : World) : OT B (.slice none 0 0) [] W := ⟨rfl, .inl ⟨rfl, rfl⟩⟩
set_option maxRecDepth 100000 in
set_option maxHeartbeats 400000 in
theorem iTokens (s : ByteArray) (w : World) (hs : s.size ≤ 65536) (hM : Mk w) (h0 : 0 < w.heap.size) (R : List Nb.Tk × Nat × Nat) (hR : Nb.toksL (L s) 0 [] = R) :
    Calls Tryd.prog 5 #[.string s] w fun e w' => (∃ v, e = .returned (.tuple #[v, .int .i64 (R.2.1 : Nat), .int .i64 (R.2.2 : Nat)]) ∧ (R.2.1 = 0 → OT w.heap.size v R.1 w') ∧ (R.2.1 ≠ 0 → v = .slice none 0 0)) ∧ Below w.heap.size w w' := by
  have hl : (L s).length = s.size := L_len s
  have C := hide (fun v => iClone s v (by omega))
  have HR := hide hR
  have HM := hide hM
  clear hR hM
  go_enter Tryd.func5, Tryd.ntmps5
  go_wp2
  go_step3
  go_wp2_with (go_at_call 14; refine (unhide C _).mono ?_; rintro e v1 ⟨rfl, hb1⟩)
  have HB1 := hide hb1
  clear hb1
  go_step3
  go_wp2
  go_loopw [5, 6] (fun v i wr => ∃ (a : Nat) (out : List Nb.Tk), i = .int .i64 a ∧ a ≤ s.size ∧ OT w.heap.size v out wr ∧ Below w.heap.size w wr ∧ out.length ≤ 16384 ∧ Nb.toksL (L s) a out = R) (fun v i wr => s.size - (intOf i).toNat)
  case atStart => exact ⟨0, [], rfl, Nat.zero_le _, OT_nil _ _, unhide HB1, Nat.zero_le _, unhide HR⟩
  case round =>
    clear HB1
    obtain ⟨a, out, rfl, ha, hO, hb, hol, hr⟩ := hrel
    have HO := hide hO
    have HB := hide hb
    have HT := hide hr
    clear hO hb hr HR
    by_cases has : a < s.size
    · go_wp2
      go_loop [6] (fun i => ∃ b : Nat, b < s.size ∧ a ≤ b ∧ i = .int .i64 b ∧ Nb.toksL (L s) b out = R) (fun i => s.size - (intOf i).toNat)
      case atStart => exact ⟨a, has, Nat.le_refl _, rfl, unhide HT⟩
      case round =>
        clear HT
        obtain ⟨b, hb, hab, rfl, hr⟩ := hrel
        have HT := hide hr
        clear hr
        by_cases h1 : s[b] = 32 ∨ s[b] = 10
        · have HS := hide ((Nb.toksL_skip (l := L s) (a := b) (out := out) (by omega) h1).symm.trans (unhide HT))
          have q : ((s[b].toNat : Int) == 32) = true ∨ (((s[b].toNat : Int) == 32) = false ∧ ((s[b].toNat : Int) == 10) = true) := by
            rcases h1 with e | e
            · exact .inl (by rw [e]; rfl)
            · exact .inr ⟨by rw [e]; rfl, by rw [e]; rfl⟩
          clear h1 HT
          by_cases hlast : b + 1 = s.size
          · have HE := hide ((Nb.toksL_end (l := L s) (a := b + 1) (out := out) (by omega)).symm.trans (unhide HS))
            have q3 : ((b : Int) + 1 == (s.size : Int)) = true := by rw [beq_iff_eq]; omega
            rcases q with q1 | ⟨q1, q2⟩
            all_goals
              go_wp2
              try rw [Exit.noGoto_ret]
              have hRe := unhide HE
              subst hRe
              exact bodyPost_ret (v := .tuple #[_, .int .i64 0, .int .i64 0]) (by simp [results, Tryd.results5, go_sem]) rfl ⟨⟨_, rfl, fun _ => unhide HO, fun h => absurd rfl h⟩, unhide HB⟩
          · have q3 : ((b : Int) + 1 == (s.size : Int)) = false := beq_eq_false_iff_ne.2 (by omega)
            rcases q with q1 | ⟨q1, q2⟩
            all_goals
              go_wp2
              exact ⟨⟨b + 1, by omega, by omega, by go_num, unhide HS⟩, by simp [intOf]; omega⟩
        · have q1 : ((s[b].toNat : Int) == 32) = false := u8x (fun e => h1 (.inl e))
          have q2 : ((s[b].toNat : Int) == 10) = false := u8x (fun e => h1 (.inr e))
          have TK := hide (iTokenAt s b wr (by omega) hb (Mk_later (unhide HM) h0 (unhide HB)) (Nat.lt_of_lt_of_le h0 (unhide HB).size))
          have H1 : Hid (¬ ((L s)[b]'(by omega) = 32 ∨ (L s)[b]'(by omega) = 10)) := hide h1
          clear h1
          by_cases hk : (Nb.tokL ((L s).drop b)).1 = 0
          · by_cases hm : out.length = 16384
            · have HE := hide ((Nb.toksL_many (l := L s) (a := b) (out := out) (by omega) (unhide H1) hk hm).symm.trans (unhide HT))
              obtain ⟨c1, c2, hu5⟩ : ∃ (c1 : Option Addr) (c2 : Nat), u5 = .slice c1 16384 c2 := by
                rcases (unhide HO).2 with ⟨_, hn⟩ | ⟨g, cap, cur, hv, _⟩
                · omega
                · exact ⟨some ⟨g, 0, none⟩, cap, by rw [hv, hm]⟩
              subst hu5
              unfold tokV at TK
              rw [if_pos hk, hk] at TK
              unfold tkV at TK
              clear HT
              go_wp2_with (go_at_call 15; refine (unhide TK).mono ?_; rintro e v2 ⟨rfl, hb2⟩)
              try rw [Exit.noGoto_ret]
              have hRe := unhide HE
              subst hRe
              refine bodyPost_ret (v := .tuple #[.slice none 0 0, .int .i64 10, .int .i64 (b : Nat)]) (by simp [results, Tryd.results5, go_sem]) rfl ⟨⟨_, rfl, fun h => (by cases h), fun _ => rfl⟩, ?_⟩
              exact bal (below_step (unhide HB) hb2) _
            · have HE := hide ((Nb.toksL_step (l := L s) (a := b) (out := out) (by omega) (unhide H1) hk hm).symm.trans (unhide HT))
              obtain ⟨c1, c2, hu5⟩ : ∃ (c1 : Option Addr) (c2 : Nat), u5 = .slice c1 out.length c2 := by
                rcases (unhide HO).2 with ⟨hv, hn⟩ | ⟨g, cap, cur, hv, _⟩
                · exact ⟨none, 0, by rw [hv, hn]⟩
                · exact ⟨some ⟨g, 0, none⟩, cap, hv⟩
              subst hu5
              have q5 : ((out.length : Int) == 16384) = false := beq_eq_false_iff_ne.2 (by omega)
              unfold tokV at TK
              rw [if_pos hk, hk] at TK
              unfold tkV at TK
              have hfit := Nb.tokL_fit hk
              generalize (Nb.tokL ((L s).drop b)).2.1 = K at *
              generalize (Nb.tokL ((L s).drop b)).2.2 = N at *
              clear HT
              rw [List.length_drop] at hfit
              have HBN : Hid (b + N ≤ s.size) := hide (by omega)
              have ZN : Hid ((S (((L s).drop b).take N)).size = N) := hide (by rw [S_size, List.length_take, List.length_drop]; omega)
              have HW : Hid (wrap64 ((b : Int) + (N : Int)) = ((b + N : Nat) : Int)) := hide (wrap_add b N (by omega))
              have HLN : Hid ((out ++ [(⟨K, ((L s).drop b).take N, b⟩ : Nb.Tk)]).length ≤ 16384) := hide (by rw [List.length_append, List.length_singleton]; omega)
              have HME : Hid (s.size - (intOf (.int .i64 ((b + N : Nat) : Int))).toNat < s.size - (intOf (.int .i64 (a : Int))).toNat) := hide (by simp only [intOf]; omega)
              obtain ⟨i31, hi, hz0, hz1, hz2⟩ := info_parts info31
              go_wp2_with (first | (go_at_call 15; refine (unhide TK).mono ?_; rintro e v2 ⟨rfl, hb2⟩; have hO2 := ownsRow_later (unhide HO) hb2; have hsz2 := Nat.le_trans (unhide HB).size hb2.size) | (at_builtin; refine wpList_append_own _ rfl (.tmp 61) (.tmp 63) 22 rfl w.heap.size 31 i31 _ 3 32 Tryd.underlying22 hi hz0 hz1 hz2 rfl (by decide) _ out.length (tkC out) rfl (World.ownsRow.alloc (World.ownsRow.alloc hO2 _) _) ⟨_, 0, none⟩ 1 1 [.int .i64 (K : Nat), .string (S (((L s).drop b).take N)), .int .i64 (b : Nat)] rfl rfl (news3 _ _ _ _ _ (by simp)) (one3 _ _ _) (by unfold maxLen; omega) (by omega) (by simp; omega) ?_; intro v' w1 hown' hgrow _; obtain ⟨g, cap, rfl, hgB, hce⟩ := own_last hown'))
              have hbF : Below w.heap.size w w1 := (bal (bal (below_step (unhide HB) hb2) _) _).grown hgrow (by simp; omega) (fun k hk => by have := (World.ownsRow.lt hO2 k hk).1; omega)
              rw [unhide ZN, unhide HW]
              exact ⟨⟨b + N, out ++ [⟨K, ((L s).drop b).take N, b⟩], rfl, unhide HBN, OT_step hown', hbF, unhide HLN, unhide HE⟩, unhide HME⟩
          · have HE := hide ((Nb.toksL_bad (l := L s) (a := b) (out := out) (by omega) (unhide H1) hk).symm.trans (unhide HT))
            unfold tokV at TK
            rw [if_neg hk] at TK
            have hc0 : ((Nb.tokL ((L s).drop b)).1 : Int) ≠ 0 := by omega
            generalize (Nb.tokL ((L s).drop b)).1 = code at *
            have q3 : ((code : Int) == 0) = false := beq_eq_false_iff_ne.2 hc0
            have q4 : ((code : Int) != 0) = true := by rw [bne_iff_ne]; exact hc0
            unfold tkV at TK
            clear HT
            go_wp2_with (go_at_call 15; refine (unhide TK).mono ?_; rintro e v2 ⟨rfl, hb2⟩)
            try rw [Exit.noGoto_ret]
            have hRe := unhide HE
            subst hRe
            refine bodyPost_ret (v := .tuple #[.slice none 0 0, .int .i64 (code : Nat), .int .i64 (b : Nat)]) (by simp [results, Tryd.results5, go_sem]) rfl ⟨⟨_, rfl, fun h => absurd h hk, fun _ => rfl⟩, ?_⟩
            exact bal (below_step (unhide HB) hb2) _
    · have HE := hide ((Nb.toksL_end (l := L s) (a := a) (out := out) (by omega)).symm.trans (unhide HT))
      go_wp2
      try rw [Exit.noGoto_ret]
      have hRe := unhide HE
      subst hRe
      exact bodyPost_ret (v := .tuple #[_, .int .i64 0, .int .i64 0]) (by simp [results, Tryd.results5, go_sem]) rfl ⟨⟨_, rfl, fun _ => unhide HO, fun h => absurd rfl h⟩, unhide HB⟩
end Go.Proofs.YtdgiidlaafbgcaaDoor
