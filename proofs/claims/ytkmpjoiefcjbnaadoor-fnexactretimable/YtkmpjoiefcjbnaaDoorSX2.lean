/- The specification's ex, of kids that are constants of 0s. -/
import Derived.Test.YtkmpjoiefcjbnaaDoorSXA
namespace Go.Proofs.YtkmpjoiefcjbnaaDoor
open Go.RowKit Gs
set_option linter.unusedVariables false
set_option linter.unusedSimpArgs false
set_option maxRecDepth 100000
/-- What ex looks at besides widths and shape. -/
def fieldsB (op n : Int) (sg : Bool) (s : ByteArray) : Bool := (s.toList.isEmpty || decide (op = 29)) && (decide (n = 0) || decide (op = 27) || decide (30 ≤ op)) && (!sg || decide (op = 12) || decide (op = 13) || decide (op = 28))
/-- What ex answers. -/
def exB (op width n : Int) (sg : Bool) (s : ByteArray) (xs : List Int) : Bool := (decide (1 ≤ width) && decide (width ≤ 64)) && fieldsB op n sg s && shapeB op width n sg s xs
theorem kz_grown {xs : List Int} {v : Value} {w W : World} {pb : Nat} (hr : RS 6 RKz w 0 xs v) (hv : ∀ b o l c, v = .slice (some ⟨b, o, none⟩) l c → b ≠ pb) (hg : w.grownBy W (some pb)) : RS 6 RKz W 0 xs v := by
  obtain ⟨a, c, hva, h1, h2, h3⟩ := hr
  refine ⟨a, c, hva, h1, h2, fun hne => ?_⟩
  obtain ⟨b, o, ha, hb, he⟩ := h3 hne
  have hbn : b ≠ pb := hv b o _ _ (by rw [hva, ha])
  refine ⟨b, o, ha, hb, fun i x hx => ?_⟩
  obtain ⟨u, hl, hat, hr⟩ := he i x hx
  exact ⟨u, hl, fun j y hj => hg.cell (hat j y hj) (by simpa using hbn), hr⟩
/-- The boxed cells of ex, in whatever world comes. -/
theorem box_grown {t : TypeId} {w W : World} {vs : Array Value} {pb : Nat} (hpb : pb < w.heap.size) (hg : (w.alloc (.cells vs t)).grownBy W (some pb)) {j : Nat} {y : Value} (hj : vs[j]? = some y) : W.cell? ⟨w.heap.size, j, none⟩ = some y :=
  hg.cell (by rw [World.cell?_alloc_new]; exact hj) (by simp; omega)
theorem setC_size (w : World) (a : Addr) (v : Value) : (w.setCell a v).heap.size = w.heap.size := by simp
set_option maxHeartbeats 8000000 in
theorem sExBad (op width n : Int) (sg : Bool) (s : ByteArray) (xs : List Int) (v : Value) (pb : Nat) (w : World) (hw : ¬ (1 ≤ width ∧ width ≤ 64)) (ho : op < 30 ∨ 32 < op) (h7 : op ≠ 7) (h8 : op ≠ 8) (hs : s.size ≤ maxLen) (hx : ∀ x ∈ xs, 1 ≤ x ∧ x ≤ 64) (hl : xs.length ≤ 64) (hr : RS 6 RKz w 0 xs v) (hv : ∀ b o l c, v = .slice (some ⟨b, o, none⟩) l c → b ≠ pb)
    (hc : w.cell? ⟨pb, 2, none⟩ = some (.int .i64 16384)) (hf : w.frozen? ⟨pb, 2, none⟩ = false) :
    Calls Tryd.prog 62 #[.pointer (some ⟨pb, 0, none⟩), .agg #[.int .i64 op, .int .i64 width, .int .i64 n, .bool sg, .string s, v], .int .i64 1] w fun e w' => e = .returned (.bool false) ∧ w.grownBy w' (some pb) := by
  have hpb : pb < w.heap.size := World.block_lt_of_cell? w _ hc
  obtain ⟨a, c, rfl⟩ := hr.slice
  have LF := hide (fun o => (Lf.of (W := (w.setCell ⟨pb, 2, none⟩ (.int .i64 16383)).alloc o) (o := o) (k' := 16383) hc hf (brf _)).grown)
  clear hr hx hv ho h7 h8
  have hcs : width < 1 ∨ (1 ≤ width ∧ 64 < width) := by omega
  clear hw
  rcases hcs with hw | ⟨hw1, hw2⟩
  · go_enter Tryd.func62, Tryd.ntmps62
    go_wp2
    go_ret
    exact ⟨rfl, unhide LF _⟩
  · go_enter Tryd.func62, Tryd.ntmps62
    go_wp2
    go_ret
    exact ⟨rfl, unhide LF _⟩
set_option maxHeartbeats 8000000 in
theorem sExGood (op width n : Int) (sg : Bool) (s : ByteArray) (xs : List Int) (v : Value) (pb : Nat) (w : World) (hw1 : 1 ≤ width) (hw2 : width ≤ 64) (ho : op < 30 ∨ 32 < op) (h7 : op ≠ 7) (h8 : op ≠ 8) (hs : s.size ≤ maxLen) (hx : ∀ x ∈ xs, 1 ≤ x ∧ x ≤ 64) (hl : xs.length ≤ 64) (hr : RS 6 RKz w 0 xs v) (hv : ∀ b o l c, v = .slice (some ⟨b, o, none⟩) l c → b ≠ pb)
    (hc : w.cell? ⟨pb, 2, none⟩ = some (.int .i64 16384)) (hf : w.frozen? ⟨pb, 2, none⟩ = false) :
    Calls Tryd.prog 62 #[.pointer (some ⟨pb, 0, none⟩), .agg #[.int .i64 op, .int .i64 width, .int .i64 n, .bool sg, .string s, v], .int .i64 1] w fun e w' => e = .returned (.bool (fieldsB op n sg s && shapeB op width n sg s xs)) ∧ w.grownBy w' (some pb) := by
  have hpb : pb < w.heap.size := World.block_lt_of_cell? w _ hc
  have HR := hide (fun W hg => kz_grown (W := W) hr hv hg)
  have HSH := hide (fun W hg => sShape op width n sg s xs v (.pointer (some ⟨pb, 0, none⟩)) W ho hw1 hw2 hs (fun x hx' => ⟨by have := hx x hx'; omega, (hx x hx').2⟩) hl (kz_grown (W := W) hr hv hg))
  have HXS := hide hx
  have hlen := hr.len
  unfold maxLen at hlen
  have LF0 := hide (fun o => (Lf.of (W := (w.setCell ⟨pb, 2, none⟩ (.int .i64 16383)).alloc o) (o := o) (k' := 16383) hc hf (brf _)))
  have HK := hide (fun (W : World) (hg : w.grownBy W (some pb)) (k : Nat) (x : Int) (hx : xs[k]? = some x) => (show ∃ b o c, v = .slice (some ⟨b, o, none⟩) xs.length c ∧ xs.length ≤ c ∧ W.cell? ⟨b, o + k * 6, none⟩ = some (.int .i64 29) ∧ W.cell? ⟨b, o + k * 6 + 1, none⟩ = some (.int .i64 x) ∧ W.cell? ⟨b, o + k * 6 + 2, none⟩ = some (.int .i64 0) ∧ W.cell? ⟨b, o + k * 6 + 3, none⟩ = some (.bool false) ∧ W.cell? ⟨b, o + k * 6 + 4, none⟩ = some (.string (S (List.replicate x.toNat 48))) ∧ W.cell? ⟨b, o + k * 6 + 5, none⟩ = some (.slice none 0 0) from by
    rcases (kz_grown (W := W) hr hv hg).open with ⟨hnil, _⟩ | ⟨b, o, c, e, hlc, _, _, hcs⟩
    · rw [hnil] at hx; simp at hx
    · obtain ⟨u, _, hat, hu⟩ := hcs k x hx
      unfold RKz at hu
      subst hu
      exact ⟨b, o, c, e, hlc, hat.get (j := 0) rfl, hat.get (j := 1) rfl, hat.get (j := 2) rfl, hat.get (j := 3) rfl, hat.get (j := 4) rfl, hat.get (j := 5) rfl⟩))
  obtain ⟨a, c, e⟩ := hr.slice
  subst e
  clear hr hv hx
  generalize shapeB op width n sg s xs = SB at *
  generalize hR : (fieldsB op n sg s && SB) = R
  have HT := hide (show fieldsB op n sg s = true → SB = R from fun h => by rw [← hR, h]; rfl)
  have HF := hide (show fieldsB op n sg s = false → false = R from fun h => by rw [← hR, h]; rfl)
  clear hR
  go_enter Tryd.func62, Tryd.ntmps62
  go_wp2
  go_loopw [7] (fun i wr => ∃ k : Nat, k ≤ xs.length ∧ i = .int .i64 k ∧ Lf w pb (16383 - (k : Int)) wr ∧ ((w.setCell ⟨pb, 2, none⟩ (.int .i64 16383)).alloc (.cells #[.int .i64 op, .int .i64 width, .int .i64 n, .bool sg, .string s, .slice a xs.length c] 104)).grownBy wr (some pb)) (fun i _ => xs.length - (intOf i).toNat)
  case atStart => exact ⟨0, Nat.zero_le _, rfl, unhide LF0 _, World.grownBy.refl _ _⟩
  case round =>
    clear hc hf LF0
    obtain ⟨k, hk, rfl, hlf, hgb⟩ := hrel
    have q0 := box_grown (w := w.setCell ⟨pb, 2, none⟩ (.int .i64 16383)) (by rw [setC_size]; exact hpb) hgb (j := 0) rfl
    have q1 := box_grown (w := w.setCell ⟨pb, 2, none⟩ (.int .i64 16383)) (by rw [setC_size]; exact hpb) hgb (j := 1) rfl
    have q2 := box_grown (w := w.setCell ⟨pb, 2, none⟩ (.int .i64 16383)) (by rw [setC_size]; exact hpb) hgb (j := 2) rfl
    have q3 := box_grown (w := w.setCell ⟨pb, 2, none⟩ (.int .i64 16383)) (by rw [setC_size]; exact hpb) hgb (j := 3) rfl
    have q4 := box_grown (w := w.setCell ⟨pb, 2, none⟩ (.int .i64 16383)) (by rw [setC_size]; exact hpb) hgb (j := 4) rfl
    have q5 := box_grown (w := w.setCell ⟨pb, 2, none⟩ (.int .i64 16383)) (by rw [setC_size]; exact hpb) hgb (j := 5) rfl
    rw [setC_size] at q0 q1 q2 q3 q4 q5
    by_cases hlt : k < xs.length
    · have hx : xs[k]? = some xs[k] := List.getElem?_eq_getElem hlt
      have hmem : xs[k] ∈ xs := List.getElem_mem hlt
      generalize xs[k] = x at hx hmem
      obtain ⟨b, o, c', e, hlc, m0, m1, m2, m3, m4, m5⟩ := unhide HK wr hlf.grown k x hx
      obtain ⟨rfl, rfl⟩ : a = some ⟨b, o, none⟩ ∧ c = c' := by
        injection e with e1 e2 e3
        exact ⟨e1, e3⟩
      obtain ⟨hx1, hx2⟩ := unhide HXS x hmem
      have EX := hide (sExLeaf x 2 (16383 - (k : Int)) pb wr hx1 hx2 (by omega) (by omega) (by omega) (by omega) hlf.cell hlf.free)
      have HLF := hide hlf
      have HGB := hide hgb
      clear hlf hgb HK HR HSH HXS HT HF e hmem hx hx1 hx2
      generalize S (List.replicate x.toNat 48) = Z at *
      go_wp2_with (first | (go_at_call 62; refine (unhide EX).mono ?_; rintro e V ⟨rfl, hl2⟩; have HL2 := hide hl2; clear hl2))
      refine ⟨⟨k + 1, by omega, by go_num, ?_, grown_trans (unhide HGB) (unhide HL2).grown⟩, by simp [intOf]; omega⟩
      have := (unhide HLF).then (unhide HL2)
      rw [show (16383 : Int) - ((k + 1 : Nat) : Int) = 16383 - (k : Int) - 1 by omega]
      exact this
    · obtain rfl : k = xs.length := by omega
      have HG := hide hlf.grown
      have SH := hide (unhide HSH wr hlf.grown)
      clear hlf hgb HK HR HSH HXS
      have fop : ∀ k : Int, op ≠ k → (op == k) = false ∧ (op != k) = true := fun k h => ⟨beq_eq_false_iff_ne.2 h, bne_iff_ne.2 h⟩
      cases hE : s.toList.isEmpty
      · by_cases o29 : op = 29
        · subst o29
          by_cases hn : n = 0
          · subst hn
            cases sg
            · have HE := hide (unhide HT (by simp [fieldsB, hE]))
              go_wp2_with (first | (go_at_call 81; refine (unhide SH).mono ?_; rintro e V ⟨rfl, hb⟩; have HG2 := hide (grown_trans (unhide HG) (grown_of_below hb)); clear hb))
              go_ret
              exact ⟨ret_bool (unhide HE), unhide HG2⟩
            · have HE := hide (unhide HF (by simp [fieldsB, hE]))
              go_wp2
              go_ret
              exact ⟨ret_bool (unhide HE), unhide HG⟩
          · have hn1 : (n != 0) = true := bne_iff_ne.2 hn
            have HE := hide (unhide HF (by simp [fieldsB, hE, hn]))
            go_wp2
            go_ret
            exact ⟨ret_bool (unhide HE), unhide HG⟩
        · obtain ⟨f1, f2⟩ := fop 29 o29
          have HE := hide (unhide HF (by simp [fieldsB, hE, o29]))
          go_wp2
          go_ret
          exact ⟨ret_bool (unhide HE), unhide HG⟩
      · have hsign : ∀ (hB : (decide (n = 0) || decide (op = 27) || decide (30 ≤ op)) = true), True := fun _ => trivial
        clear hsign
        by_cases hn : n = 0
        · subst hn
          cases sg
          · have HE := hide (unhide HT (by simp [fieldsB, hE]))
            go_wp2_with (first | (go_at_call 81; refine (unhide SH).mono ?_; rintro e V ⟨rfl, hb⟩; have HG2 := hide (grown_trans (unhide HG) (grown_of_below hb)); clear hb))
            go_ret
            exact ⟨ret_bool (unhide HE), unhide HG2⟩
          · by_cases o12 : op = 12
            · subst o12
              have HE := hide (unhide HT (by simp [fieldsB, hE]))
              go_wp2_with (first | (go_at_call 81; refine (unhide SH).mono ?_; rintro e V ⟨rfl, hb⟩; have HG2 := hide (grown_trans (unhide HG) (grown_of_below hb)); clear hb))
              go_ret
              exact ⟨ret_bool (unhide HE), unhide HG2⟩
            by_cases o13 : op = 13
            · subst o13
              have HE := hide (unhide HT (by simp [fieldsB, hE]))
              go_wp2_with (first | (go_at_call 81; refine (unhide SH).mono ?_; rintro e V ⟨rfl, hb⟩; have HG2 := hide (grown_trans (unhide HG) (grown_of_below hb)); clear hb))
              go_ret
              exact ⟨ret_bool (unhide HE), unhide HG2⟩
            by_cases o28 : op = 28
            · subst o28
              have HE := hide (unhide HT (by simp [fieldsB, hE]))
              go_wp2_with (first | (go_at_call 81; refine (unhide SH).mono ?_; rintro e V ⟨rfl, hb⟩; have HG2 := hide (grown_trans (unhide HG) (grown_of_below hb)); clear hb))
              go_ret
              exact ⟨ret_bool (unhide HE), unhide HG2⟩
            obtain ⟨f1, f2⟩ := fop 7 h7
            obtain ⟨f3, f4⟩ := fop 8 h8
            obtain ⟨f5, f6⟩ := fop 12 o12
            obtain ⟨f7, f8⟩ := fop 13 o13
            obtain ⟨f9, g1⟩ := fop 28 o28
            have HE := hide (unhide HF (by simp [fieldsB, hE, o12, o13, o28]))
            go_wp2
            go_ret
            exact ⟨ret_bool (unhide HE), unhide HG⟩
        · have hn1 : (n != 0) = true := bne_iff_ne.2 hn
          by_cases o27 : op = 27
          · subst o27
            cases sg
            · have HE := hide (unhide HT (by simp [fieldsB, hE, hn]))
              go_wp2_with (first | (go_at_call 81; refine (unhide SH).mono ?_; rintro e V ⟨rfl, hb⟩; have HG2 := hide (grown_trans (unhide HG) (grown_of_below hb)); clear hb))
              go_ret
              exact ⟨ret_bool (unhide HE), unhide HG2⟩
            · have HE := hide (unhide HF (by simp [fieldsB, hE, hn]))
              go_wp2
              go_ret
              exact ⟨ret_bool (unhide HE), unhide HG⟩
          · obtain ⟨f1, f2⟩ := fop 27 o27
            by_cases o30 : op < 30
            · have HE := hide (unhide HF (by simp [fieldsB, hE, hn, o27, Int.not_le.2 o30]))
              go_wp2
              go_ret
              exact ⟨ret_bool (unhide HE), unhide HG⟩
            · have o32 : 32 < op := by omega
              have o30d : decide (op < 30) = false := decide_eq_false o30
              have o31 : 30 ≤ op := by omega
              have e12 : op ≠ 12 := by omega
              have e13 : op ≠ 13 := by omega
              have e28 : op ≠ 28 := by omega
              obtain ⟨u1, u2⟩ := fop 7 h7
              obtain ⟨u3, u4⟩ := fop 8 h8
              obtain ⟨u5, u6⟩ := fop 12 e12
              obtain ⟨u7, u8⟩ := fop 13 e13
              obtain ⟨u9, t1⟩ := fop 28 e28
              cases sg
              · have HE := hide (unhide HT (by simp [fieldsB, hE, hn, o27, o31, e12, e13, e28]))
                go_wp2_with (first | (go_at_call 81; refine (unhide SH).mono ?_; rintro e V ⟨rfl, hb⟩; have HG2 := hide (grown_trans (unhide HG) (grown_of_below hb)); clear hb))
                go_ret
                exact ⟨ret_bool (unhide HE), unhide HG2⟩
              · have HE := hide (unhide HF (by simp [fieldsB, hE, hn, o27, o31, e12, e13, e28]))
                go_wp2
                go_ret
                exact ⟨ret_bool (unhide HE), unhide HG⟩
theorem sEx (op width n : Int) (sg : Bool) (s : ByteArray) (xs : List Int) (v : Value) (pb : Nat) (w : World) (ho : op < 30 ∨ 32 < op) (h7 : op ≠ 7) (h8 : op ≠ 8) (hs : s.size ≤ maxLen) (hx : ∀ x ∈ xs, 1 ≤ x ∧ x ≤ 64) (hl : xs.length ≤ 64) (hr : RS 6 RKz w 0 xs v) (hv : ∀ b o l c, v = .slice (some ⟨b, o, none⟩) l c → b ≠ pb)
    (hc : w.cell? ⟨pb, 2, none⟩ = some (.int .i64 16384)) (hf : w.frozen? ⟨pb, 2, none⟩ = false) :
    Calls Tryd.prog 62 #[.pointer (some ⟨pb, 0, none⟩), .agg #[.int .i64 op, .int .i64 width, .int .i64 n, .bool sg, .string s, v], .int .i64 1] w fun e w' => e = .returned (.bool (exB op width n sg s xs)) ∧ w.grownBy w' (some pb) := by
  by_cases hw : 1 ≤ width ∧ width ≤ 64
  · have E : exB op width n sg s xs = (fieldsB op n sg s && shapeB op width n sg s xs) := by unfold exB; rw [decide_eq_true hw.1, decide_eq_true hw.2]; rfl
    rw [E]
    exact sExGood op width n sg s xs v pb w hw.1 hw.2 ho h7 h8 hs hx hl hr hv hc hf
  · have E : exB op width n sg s xs = false := by
      unfold exB
      rw [show (decide (1 ≤ width) && decide (width ≤ 64)) = false from by rw [Bool.and_eq_false_iff, decide_eq_false_iff_not, decide_eq_false_iff_not]; omega]
      rfl
    rw [E]
    exact sExBad op width n sg s xs v pb w hw ho h7 h8 hs hx hl hr hv hc hf
end Go.Proofs.YtkmpjoiefcjbnaaDoor
