/- Parts of the proof: PS13 to ND4. -/
import Derived.Test.YtddlokkejglckaaGreatDoorPS4
import Derived.Test.YtddlokkejglckaaGreatDoorPS5
import Derived.Test.YtddlokkejglckaaGreatDoorMPS6
import Derived.Test.YtddlokkejglckaaGreatDoorMPS8
import Derived.Test.YtddlokkejglckaaGreatDoorMPS11
import Derived.Test.YtddlokkejglckaaGreatDoorMPD1
import Derived.Laws.MakeOwn
import Derived.Deep.RegionHeld3
namespace Go.Proofs.YtddlokkejglckaaGreatDoor
open Go.RowKit Nt
set_option linter.unusedVariables false
set_option maxRecDepth 100000
set_option linter.unusedSimpArgs false
theorem fmn_eq (n : Nd) : fm n = (txB n.kind n.text && kdB n.kind n.kids && fmL n.kids) := by obtain ⟨k, t, ks⟩ := n; exact fm_mk k t ks
theorem hasB_ne (s : Nat) (k : Int) (i : Nat) (h : hasB s k = true) (hi : s.testBit i = false) : k ≠ (i : Int) := by
 rintro rfl
 unfold hasB at h
 simp only [Bool.and_eq_true, Int.toNat_natCast] at h
 rw [hi] at h
 cases h.2
theorem fmP_of {x : Nd} (s : Nat) (h : hasB s x.kind = true) (hf : fm x = true) (h1 : s.testBit 1 = false) (h5 : s.testBit 5 = false) (h24 : s.testBit 24 = false) : fmP x :=
 ⟨hf, hasB_ne s _ 1 h h1, hasB_ne s _ 5 h h5, hasB_ne s _ 24 h h24⟩
theorem fP {x : Nd} (s : Nat) (h : hasB s x.kind = true) (hf : fm x = true) (ho : (s.testBit 1 || s.testBit 5 || s.testBit 24) = false) : fmP x := by
 simp only [Bool.or_eq_false_iff] at ho
 exact fmP_of s h hf ho.1.1 ho.1.2 ho.2
theorem fit0 {ks : List Nd} (h : ks.isEmpty = true) : ks = [] := List.isEmpty_iff.1 h
theorem fit1 {ks : List Nd} {a : Nat} (h : fitK ks [a] = true) : ∃ x, ks = [x] ∧ hasB a x.kind = true := by
 match ks with
 | [] => cases h
 | [x] => exact ⟨x, rfl, by simpa [fitK] using h⟩
 | x :: y :: r => simp [fitK] at h
theorem fit2 {ks : List Nd} {a b : Nat} (h : fitK ks [a, b] = true) : ∃ x y, ks = [x, y] ∧ hasB a x.kind = true ∧ hasB b y.kind = true := by
 match ks with
 | [] => cases h
 | [x] => simp [fitK] at h
 | [x, y] => exact ⟨x, y, rfl, by simpa [fitK] using h⟩
 | x :: y :: z :: r => simp [fitK] at h
theorem fit3 {ks : List Nd} {a b c : Nat} (h : fitK ks [a, b, c] = true) : ∃ x y z, ks = [x, y, z] ∧ hasB a x.kind = true ∧ hasB b y.kind = true ∧ hasB c z.kind = true := by
 match ks with
 | [] => cases h
 | [x] => simp [fitK] at h
 | [x, y] => simp [fitK] at h
 | [x, y, z] => exact ⟨x, y, z, rfl, by simpa [fitK] using h⟩
 | x :: y :: z :: u :: r => simp [fitK] at h
theorem allP_of {s : Nat} {ks : List Nd} (h : allK s ks = true) (hf : ∀ x ∈ ks, fm x = true) (h1 : s.testBit 1 = false) (h5 : s.testBit 5 = false) (h24 : s.testBit 24 = false) : ∀ x ∈ ks, fmP x := by
 intro x hx
 unfold allK at h
 exact fmP_of s (List.all_eq_true.1 h x hx) (hf x hx) h1 h5 h24
theorem fmL_mem {ks : List Nd} (h : fmL ks = true) : ∀ x ∈ ks, fm x = true := by rw [fmL_all, List.all_eq_true] at h; exact h
theorem kids_fm {x : Nd} (h : fm x = true) : kdB x.kind x.kids = true ∧ ∀ u ∈ x.kids, fm u = true := by
 rw [fmn_eq] at h
 simp only [Bool.and_eq_true] at h
 exact ⟨h.1.2, fmL_mem h.2⟩
theorem kind_of {i : Nat} {k : Int} (h : hasB (2 ^ i) k = true) (hi : i < 48) (h1 : 1 ≤ i) : k = (i : Int) := by
 unfold hasB at h
 simp only [Bool.and_eq_true, decide_eq_true_eq, Nat.testBit_two_pow] at h
 omega
theorem arms_kind {ks : List Nd} (h : armsB ks = true) : ∀ u ∈ ks, u.kind = 31 ∨ u.kind = 32 := by
 intro u hu
 unfold armsB at h
 cases hl : ks.getLast? with
 | none => rw [List.getLast?_eq_none_iff] at hl; subst hl; cases hu
 | some z =>
   rw [hl] at h
   simp only at h
   by_cases hz : z.kind = 32
   · rw [if_pos hz] at h
     have hne : ks ≠ [] := by intro h0; subst h0; cases hu
     have hsp := List.dropLast_concat_getLast hne
     have hg : ks.getLast hne = z := by
       rw [List.getLast?_eq_some_getLast hne] at hl
       exact Option.some.inj hl
     rw [← hsp, hg, List.mem_append] at hu
     rcases hu with hu | hu
     · unfold allK at h; exact .inl (kind_of (List.all_eq_true.1 h u hu) (by decide) (by decide))
     · obtain rfl : u = z := by simpa using hu
       exact .inr hz
   · rw [if_neg hz] at h
     unfold allK at h; exact .inl (kind_of (List.all_eq_true.1 h u hu) (by decide) (by decide))
set_option maxHeartbeats 4000000 in
theorem spOne (n : Nd) (ih : ∀ x ∈ n.kids, SpC x) (ih2 : ∀ x ∈ n.kids, ∀ y ∈ x.kids, SpC y) (ih3 : ∀ x ∈ n.kids, ∀ y ∈ x.kids, ∀ z ∈ y.kids, SpC z) : SpC n := by
 intro v W0 w pb T ov ht hfp hr hb hp hpo hsz
 obtain ⟨hfm, n1, n5, n24⟩ := hfp
 rw [fmn_eq] at hfm
 simp only [Bool.and_eq_true] at hfm
 obtain ⟨⟨hT, hK⟩, hL⟩ := hfm
 have hkf := fmL_mem hL
 by_cases h : n.kind = 4
 · rw [h] at hK
   obtain ⟨x, hks, hx⟩ := fit1 (ks := n.kids) (by exact hK)
   have e : T ++ tk n = T ++ [L n.text] ++ [[61]] ++ tk x := by rw [tk_eq, h, hks]; simp [pieces, kid, joinT, sepL]
   rw [e] at hsz ⊢
   exact sp4 n x h hks (ih x (by rw [hks]; simp)) (fP (expK) hx (hkf x (by rw [hks]; simp)) rfl) v W0 w pb T ov ht hr hb hp hpo hsz
 by_cases h : n.kind = 6
 · rw [h] at hK
   obtain ⟨x, hks, hx⟩ := fit1 (ks := n.kids) (by exact hK)
   have e : T ++ tk n = T ++ [[105, 110]] ++ tk x ++ [L n.text] := by rw [tk_eq, h, hks]; simp [pieces, kid, joinT, sepL]
   rw [e] at hsz ⊢
   exact sp6 n x h hks (ih x (by rw [hks]; simp)) (fP (2 ^ 8) hx (hkf x (by rw [hks]; simp)) rfl) v W0 w pb T ov ht hr hb hp hpo hsz
 by_cases h : n.kind = 7
 · rw [h] at hK
   obtain ⟨x, hks, hx⟩ := fit1 (ks := n.kids) (by exact hK)
   have e : T ++ tk n = T ++ [[111, 117, 116]] ++ tk x ++ [L n.text] := by rw [tk_eq, h, hks]; simp [pieces, kid, joinT, sepL]
   rw [e] at hsz ⊢
   exact sp7 n x h hks (ih x (by rw [hks]; simp)) (fP (2 ^ 8) hx (hkf x (by rw [hks]; simp)) rfl) v W0 w pb T ov ht hr hb hp hpo hsz
 by_cases h : n.kind = 9
 · rw [h] at hK
   obtain ⟨x, hks, hx⟩ := fit1 (ks := n.kids) (by exact hK)
   have e : T ++ tk n = T ++ [[119, 105, 114, 101]] ++ tk x ++ [L n.text] ++ [[59]] := by rw [tk_eq, h, hks]; simp [pieces, kid, joinT, sepL]
   rw [e] at hsz ⊢
   exact sp9 n x h hks (ih x (by rw [hks]; simp)) (fP (2 ^ 8) hx (hkf x (by rw [hks]; simp)) rfl) v W0 w pb T ov ht hr hb hp hpo hsz
 by_cases h : n.kind = 11
 · rw [h] at hK
   obtain ⟨x, y, hks, hx, hy⟩ := fit2 (ks := n.kids) (by exact hK)
   have e : T ++ tk n = T ++ [[109, 101, 109]] ++ tk x ++ [L n.text] ++ ([[91]] ++ joinT [] (([y]).map tk) ++ [[93]]) ++ [[59]] := by rw [tk_eq, h, hks]; simp [pieces, kid, joinT, sepL]
   rw [e] at hsz ⊢
   exact sp11 n x y h hks (ih x (by rw [hks]; simp)) (fP (2 ^ 8) hx (hkf x (by rw [hks]; simp)) rfl) (ih y (by rw [hks]; simp)) (fP (expK) hy (hkf y (by rw [hks]; simp)) rfl) v W0 w pb T ov ht hr hb hp hpo hsz
 by_cases h : n.kind = 12
 · rw [h] at hK
   obtain ⟨x, hks, hx⟩ := fit1 (ks := n.kids) (by exact hK)
   have e : T ++ tk n = T ++ [[99, 111, 110, 115, 116]] ++ [L n.text] ++ [[61]] ++ tk x ++ [[59]] := by rw [tk_eq, h, hks]; simp [pieces, kid, joinT, sepL]
   rw [e] at hsz ⊢
   exact sp12 n x h hks (ih x (by rw [hks]; simp)) (fP (expK) hx (hkf x (by rw [hks]; simp)) rfl) v W0 w pb T ov ht hr hb hp hpo hsz
 by_cases h : n.kind = 18
 · rw [h] at hK
   obtain ⟨x, hks, hx⟩ := fit1 (ks := n.kids) (by exact hK)
   have e : T ++ tk n = T ++ [[99, 104, 101, 99, 107]] ++ [L n.text] ++ [[61]] ++ tk x ++ [[59]] := by rw [tk_eq, h, hks]; simp [pieces, kid, joinT, sepL]
   rw [e] at hsz ⊢
   exact sp18 n x h hks (ih x (by rw [hks]; simp)) (fP (expK) hx (hkf x (by rw [hks]; simp)) rfl) v W0 w pb T ov ht hr hb hp hpo hsz
 by_cases h : n.kind = 14
 · rw [h] at hK
   obtain ⟨x, y, hks, hx, hy⟩ := fit2 (ks := n.kids) (by exact hK)
   have e : T ++ tk n = T ++ [[97, 115, 115, 105, 103, 110]] ++ (tk x ++ [[61]] ++ tk y ++ [[59]]) := by rw [tk_eq, h, hks]; simp [pieces, kid, joinT, sepL]
   rw [e] at hsz ⊢
   exact sp14 n x y h hks (ih x (by rw [hks]; simp)) (fP (tgtK) hx (hkf x (by rw [hks]; simp)) rfl) (ih y (by rw [hks]; simp)) (fP (expK) hy (hkf y (by rw [hks]; simp)) rfl) v W0 w pb T ov ht hr hb hp hpo hsz
 by_cases h : n.kind = 27
 · rw [h] at hK
   obtain ⟨x, y, hks, hx, hy⟩ := fit2 (ks := n.kids) (by exact hK)
   have e : T ++ tk n = T ++ (tk x ++ [[61]] ++ tk y ++ [[59]]) := by rw [tk_eq, h, hks]; simp [pieces, kid, joinT, sepL]
   rw [e] at hsz ⊢
   exact sp27 n x y h hks (ih x (by rw [hks]; simp)) (fP (tgtK) hx (hkf x (by rw [hks]; simp)) rfl) (ih y (by rw [hks]; simp)) (fP (expK) hy (hkf y (by rw [hks]; simp)) rfl) v W0 w pb T ov ht hr hb hp hpo hsz
 by_cases h : n.kind = 28
 · rw [h] at hK
   obtain ⟨x, y, hks, hx, hy⟩ := fit2 (ks := n.kids) (by exact hK)
   have e : T ++ tk n = T ++ (tk x ++ [[60, 61]] ++ tk y ++ [[59]]) := by rw [tk_eq, h, hks]; simp [pieces, kid, joinT, sepL]
   rw [e] at hsz ⊢
   exact sp28 n x y h hks (ih x (by rw [hks]; simp)) (fP (tgtK) hx (hkf x (by rw [hks]; simp)) rfl) (ih y (by rw [hks]; simp)) (fP (expK) hy (hkf y (by rw [hks]; simp)) rfl) v W0 w pb T ov ht hr hb hp hpo hsz
 by_cases h : n.kind = 15
 · rw [h] at hK
   obtain ⟨x, hks, hx⟩ := fit1 (ks := n.kids) (by exact hK)
   have e : T ++ tk n = T ++ [[99, 111, 109, 98]] ++ tk x := by rw [tk_eq, h, hks]; simp [pieces, kid, joinT, sepL]
   rw [e] at hsz ⊢
   exact sp15 n x h hks (ih x (by rw [hks]; simp)) (fP (2 ^ 26) hx (hkf x (by rw [hks]; simp)) rfl) v W0 w pb T ov ht hr hb hp hpo hsz
 by_cases h : n.kind = 17
 · rw [h] at hK
   obtain ⟨x, hks, hx⟩ := fit1 (ks := n.kids) (by exact hK)
   have e : T ++ tk n = T ++ [[115, 116, 97, 114, 116]] ++ tk x := by rw [tk_eq, h, hks]; simp [pieces, kid, joinT, sepL]
   rw [e] at hsz ⊢
   exact sp17 n x h hks (ih x (by rw [hks]; simp)) (fP (2 ^ 26) hx (hkf x (by rw [hks]; simp)) rfl) v W0 w pb T ov ht hr hb hp hpo hsz
 by_cases h : n.kind = 16
 · rw [h] at hK
   obtain ⟨x, hks, hx⟩ := fit1 (ks := n.kids) (by exact hK)
   have e : T ++ tk n = T ++ [[111, 110]] ++ [L n.text] ++ tk x := by rw [tk_eq, h, hks]; simp [pieces, kid, joinT, sepL]
   rw [e] at hsz ⊢
   exact sp16 n x h hks (ih x (by rw [hks]; simp)) (fP (2 ^ 26) hx (hkf x (by rw [hks]; simp)) rfl) v W0 w pb T ov ht hr hb hp hpo hsz
 by_cases h : n.kind = 20
 · rw [h] at hK
   obtain ⟨x, y, z, hks, hx, hy, hz⟩ := fit3 (ks := n.kids) (by exact hK)
   have e : T ++ tk n = T ++ [[102, 111, 114]] ++ [L n.text] ++ [[61]] ++ tk x ++ [[46, 46]] ++ tk y ++ tk z := by rw [tk_eq, h, hks]; simp [pieces, kid, joinT, sepL]
   rw [e] at hsz ⊢
   exact sp20 n x y z h hks (ih x (by rw [hks]; simp)) (fP (expK) hx (hkf x (by rw [hks]; simp)) rfl) (ih y (by rw [hks]; simp)) (fP (expK) hy (hkf y (by rw [hks]; simp)) rfl) (ih z (by rw [hks]; simp)) (fP (2 ^ 23) hz (hkf z (by rw [hks]; simp)) rfl) v W0 w pb T ov ht hr hb hp hpo hsz
 by_cases h : n.kind = 33
 · rw [h] at hK
   obtain ⟨x, y, z, hks, hx, hy, hz⟩ := fit3 (ks := n.kids) (by exact hK)
   have e : T ++ tk n = T ++ [[102, 111, 114]] ++ [L n.text] ++ [[61]] ++ tk x ++ [[46, 46]] ++ tk y ++ tk z := by rw [tk_eq, h, hks]; simp [pieces, kid, joinT, sepL]
   rw [e] at hsz ⊢
   exact sp33 n x y z h hks (ih x (by rw [hks]; simp)) (fP (expK) hx (hkf x (by rw [hks]; simp)) rfl) (ih y (by rw [hks]; simp)) (fP (expK) hy (hkf y (by rw [hks]; simp)) rfl) (ih z (by rw [hks]; simp)) (fP (2 ^ 26) hz (hkf z (by rw [hks]; simp)) rfl) v W0 w pb T ov ht hr hb hp hpo hsz
 by_cases h : n.kind = 25
 · rw [h] at hK
   obtain ⟨x, hks, hx⟩ := fit1 (ks := n.kids) (by exact hK)
   have e : T ++ tk n = T ++ [[46]] ++ [L n.text] ++ ([[40]] ++ joinT [] (([x]).map tk) ++ [[41]]) := by rw [tk_eq, h, hks]; simp [pieces, kid, joinT, sepL]
   rw [e] at hsz ⊢
   exact sp25 n x h hks (ih x (by rw [hks]; simp)) (fP (expK) hx (hkf x (by rw [hks]; simp)) rfl) v W0 w pb T ov ht hr hb hp hpo hsz
 by_cases h : n.kind = 32
 · rw [h] at hK
   obtain ⟨x, hks, hx⟩ := fit1 (ks := n.kids) (by exact hK)
   have e : T ++ tk n = T ++ [[100, 101, 102, 97, 117, 108, 116]] ++ [[58]] ++ tk x := by rw [tk_eq, h, hks]; simp [pieces, kid, joinT, sepL]
   rw [e] at hsz ⊢
   exact sp32 n x h hks (ih x (by rw [hks]; simp)) (fP (2 ^ 26) hx (hkf x (by rw [hks]; simp)) rfl) v W0 w pb T ov ht hr hb hp hpo hsz
 by_cases h : n.kind = 34
 · rw [h] at hK
   obtain ⟨x, hks, hx⟩ := fit1 (ks := n.kids) (by exact hK)
   have e : T ++ tk n = T ++ ([[119, 97, 105, 116]] ++ joinT [] (([x]).map tk) ++ [[59]]) := by rw [tk_eq, h, hks]; simp [pieces, kid, joinT, sepL]
   rw [e] at hsz ⊢
   exact sp34 n x h hks (ih x (by rw [hks]; simp)) (fP (expK) hx (hkf x (by rw [hks]; simp)) rfl) v W0 w pb T ov ht hr hb hp hpo hsz
 by_cases h : n.kind = 35
 · rw [h] at hK
   have hks := fit0 hK
   have e : T ++ tk n = T ++ [[115, 116, 111, 112]] ++ [[59]] := by rw [tk_eq, h, hks]; simp [pieces, kid, joinT, sepL]
   rw [e] at hsz ⊢
   exact sp35 n h hks v W0 w pb T ov ht hr hb hp hpo hsz
 by_cases h : n.kind = 36
 · rw [h] at hK
   have hks := fit0 hK
   have e : T ++ tk n = T ++ [L n.text] := by rw [tk_eq, h, hks]; simp [pieces, kid, joinT, sepL]
   rw [e] at hsz ⊢
   exact spD36 n v W0 w pb T _ ov hr hb hp hpo h (fun W ov' hpo' hb' => sp36 n h hks v W0 W pb T ov' ht hr hb' hp hpo' hsz)
 by_cases h : n.kind = 37
 · rw [h] at hK
   have hks := fit0 hK
   have e : T ++ tk n = T ++ [L n.text] := by rw [tk_eq, h, hks]; simp [pieces, kid, joinT, sepL]
   rw [e] at hsz ⊢
   exact spD37 n v W0 w pb T _ ov hr hb hp hpo h (fun W ov' hpo' hb' => sp37 n h hks v W0 W pb T ov' ht hr hb' hp hpo' hsz)
 by_cases h : n.kind = 38
 · rw [h] at hK
   obtain ⟨x, hks, hx⟩ := fit1 (ks := n.kids) (by exact hK)
   have e : T ++ tk n = T ++ [L n.text] ++ ([[91]] ++ joinT [58] (([x]).map tk) ++ [[93]]) := by rw [tk_eq, h, hks]; simp [pieces, kid, joinT, sepL]
   rw [e] at hsz ⊢
   exact spD38 n v W0 w pb T _ ov hr hb hp hpo h (fun W ov' hpo' hb' => sp38 n x h hks (ih x (by rw [hks]; simp)) (fP (expK) hx (hkf x (by rw [hks]; simp)) rfl) v W0 W pb T ov' ht hr hb' hp hpo' hsz)
 by_cases h : n.kind = 39
 · rw [h] at hK
   obtain ⟨x, y, hks, hx, hy⟩ := fit2 (ks := n.kids) (by exact hK)
   have e : T ++ tk n = T ++ [L n.text] ++ ([[91]] ++ joinT [58] (([x, y]).map tk) ++ [[93]]) := by rw [tk_eq, h, hks]; simp [pieces, kid, joinT, sepL]
   rw [e] at hsz ⊢
   exact spD39 n v W0 w pb T _ ov hr hb hp hpo h (fun W ov' hpo' hb' => sp39 n x y h hks (ih x (by rw [hks]; simp)) (fP (expK) hx (hkf x (by rw [hks]; simp)) rfl) (ih y (by rw [hks]; simp)) (fP (expK) hy (hkf y (by rw [hks]; simp)) rfl) v W0 W pb T ov' ht hr hb' hp hpo' hsz)
 by_cases h : n.kind = 42
 · rw [h] at hK
   obtain ⟨x, y, hks, hx, hy⟩ := fit2 (ks := n.kids) (by exact hK)
   have e : T ++ tk n = T ++ [[123]] ++ tk x ++ ([[123]] ++ joinT [] (([y]).map tk) ++ [[125]]) ++ [[125]] := by rw [tk_eq, h, hks]; simp [pieces, kid, joinT, sepL]
   rw [e] at hsz ⊢
   exact spD42 n v W0 w pb T _ ov hr hb hp hpo h (fun W ov' hpo' hb' => sp42 n x y h hks (ih x (by rw [hks]; simp)) (fP (expK) hx (hkf x (by rw [hks]; simp)) rfl) (ih y (by rw [hks]; simp)) (fP (expK) hy (hkf y (by rw [hks]; simp)) rfl) v W0 W pb T ov' ht hr hb' hp hpo' hsz)
 by_cases h : n.kind = 43
 · rw [h] at hK
   obtain ⟨x, hks, hx⟩ := fit1 (ks := n.kids) (by exact hK)
   have e : T ++ tk n = T ++ [[115, 105, 103, 110, 101, 100]] ++ ([[40]] ++ joinT [] (([x]).map tk) ++ [[41]]) := by rw [tk_eq, h, hks]; simp [pieces, kid, joinT, sepL]
   rw [e] at hsz ⊢
   exact spD43 n v W0 w pb T _ ov hr hb hp hpo h (fun W ov' hpo' hb' => sp43 n x h hks (ih x (by rw [hks]; simp)) (fP (expK) hx (hkf x (by rw [hks]; simp)) rfl) v W0 W pb T ov' ht hr hb' hp hpo' hsz)
 by_cases h : n.kind = 44
 · rw [h] at hK
   obtain ⟨x, hks, hx⟩ := fit1 (ks := n.kids) (by exact hK)
   have e : T ++ tk n = T ++ [[117, 110, 115, 105, 103, 110, 101, 100]] ++ ([[40]] ++ joinT [] (([x]).map tk) ++ [[41]]) := by rw [tk_eq, h, hks]; simp [pieces, kid, joinT, sepL]
   rw [e] at hsz ⊢
   exact spD44 n v W0 w pb T _ ov hr hb hp hpo h (fun W ov' hpo' hb' => sp44 n x h hks (ih x (by rw [hks]; simp)) (fP (expK) hx (hkf x (by rw [hks]; simp)) rfl) v W0 W pb T ov' ht hr hb' hp hpo' hsz)
 by_cases h : n.kind = 45
 · rw [h] at hK
   obtain ⟨x, hks, hx⟩ := fit1 (ks := n.kids) (by exact hK)
   have e : T ++ tk n = T ++ [[40]] ++ [L n.text] ++ tk x ++ [[41]] := by rw [tk_eq, h, hks]; simp [pieces, kid, joinT, sepL]
   rw [e] at hsz ⊢
   exact spD45 n v W0 w pb T _ ov hr hb hp hpo h (fun W ov' hpo' hb' => sp45 n x h hks (ih x (by rw [hks]; simp)) (fP (expK) hx (hkf x (by rw [hks]; simp)) rfl) v W0 W pb T ov' ht hr hb' hp hpo' hsz)
 by_cases h : n.kind = 46
 · rw [h] at hK
   obtain ⟨x, y, hks, hx, hy⟩ := fit2 (ks := n.kids) (by exact hK)
   have e : T ++ tk n = T ++ [[40]] ++ tk x ++ [L n.text] ++ tk y ++ [[41]] := by rw [tk_eq, h, hks]; simp [pieces, kid, joinT, sepL]
   rw [e] at hsz ⊢
   exact spD46 n v W0 w pb T _ ov hr hb hp hpo h (fun W ov' hpo' hb' => sp46 n x y h hks (ih x (by rw [hks]; simp)) (fP (expK) hx (hkf x (by rw [hks]; simp)) rfl) (ih y (by rw [hks]; simp)) (fP (expK) hy (hkf y (by rw [hks]; simp)) rfl) v W0 W pb T ov' ht hr hb' hp hpo' hsz)
 by_cases h : n.kind = 47
 · rw [h] at hK
   obtain ⟨x, y, z, hks, hx, hy, hz⟩ := fit3 (ks := n.kids) (by exact hK)
   have e : T ++ tk n = T ++ [[40]] ++ tk x ++ [[63]] ++ tk y ++ [[58]] ++ tk z ++ [[41]] := by rw [tk_eq, h, hks]; simp [pieces, kid, joinT, sepL]
   rw [e] at hsz ⊢
   exact spD47 n v W0 w pb T _ ov hr hb hp hpo h (fun W ov' hpo' hb' => sp47 n x y z h hks (ih x (by rw [hks]; simp)) (fP (expK) hx (hkf x (by rw [hks]; simp)) rfl) (ih y (by rw [hks]; simp)) (fP (expK) hy (hkf y (by rw [hks]; simp)) rfl) (ih z (by rw [hks]; simp)) (fP (expK) hz (hkf z (by rw [hks]; simp)) rfl) v W0 W pb T ov' ht hr hb' hp hpo' hsz)
 by_cases h : n.kind = 13
 · rw [h] at hK
   have hq := allP_of (s := 2 ^ 37) (by have : (decide (1 ≤ n.kids.length) && allK (2 ^ 37) n.kids) = true := hK; rw [Bool.and_eq_true] at this; exact this.2) hkf (by decide) (by decide) (by decide)
   have e : T ++ tk n = T ++ ([[101, 110, 117, 109]] ++ joinT [44] ((n.kids).map tk) ++ [[59]]) := by rw [tk_eq, h]; simp [pieces, kid, joinT, sepL]
   rw [e] at hsz ⊢
   exact sp13 n h ih hq v W0 w pb T ov ht hr hb hp hpo hsz
 by_cases h : n.kind = 23
 · rw [h] at hK
   have hq := allP_of (s := itmK) hK hkf (by decide) (by decide) (by decide)
   have e : T ++ tk n = T ++ ([[123]] ++ joinT [] ((n.kids).map tk) ++ [[125]]) := by rw [tk_eq, h]; simp [pieces, kid, joinT, sepL]
   rw [e] at hsz ⊢
   exact sp23 n h ih hq v W0 w pb T ov ht hr hb hp hpo hsz
 by_cases h : n.kind = 26
 · rw [h] at hK
   have hq := allP_of (s := stmK) hK hkf (by decide) (by decide) (by decide)
   have e : T ++ tk n = T ++ ([[123]] ++ joinT [] ((n.kids).map tk) ++ [[125]]) := by rw [tk_eq, h]; simp [pieces, kid, joinT, sepL]
   rw [e] at hsz ⊢
   exact sp26 n h ih hq v W0 w pb T ov ht hr hb hp hpo hsz
 by_cases h : n.kind = 40
 · rw [h] at hK
   have hq := allP_of (s := expK) hK hkf (by decide) (by decide) (by decide)
   have e : T ++ tk n = T ++ [L n.text] ++ ([[40]] ++ joinT [44] ((n.kids).map tk) ++ [[41]]) := by rw [tk_eq, h]; simp [pieces, kid, joinT, sepL]
   rw [e] at hsz ⊢
   exact spD40 n v W0 w pb T _ ov hr hb hp hpo h (fun W ov' hpo' hb' => sp40 n h ih hq v W0 W pb T ov' ht hr hb' hp hpo' hsz)
 by_cases h : n.kind = 41
 · rw [h] at hK
   have hq := allP_of (s := expK) (by have : (decide (1 ≤ n.kids.length) && allK (expK) n.kids) = true := hK; rw [Bool.and_eq_true] at this; exact this.2) hkf (by decide) (by decide) (by decide)
   have e : T ++ tk n = T ++ ([[123]] ++ joinT [44] ((n.kids).map tk) ++ [[125]]) := by rw [tk_eq, h]; simp [pieces, kid, joinT, sepL]
   rw [e] at hsz ⊢
   exact spD41 n v W0 w pb T _ ov hr hb hp hpo h (fun W ov' hpo' hb' => sp41 n h ih hq v W0 W pb T ov' ht hr hb' hp hpo' hsz)
 by_cases h : n.kind = 10
 · rw [h] at hK
   have hK2 : (fitK n.kids [2 ^ 8] || fitK n.kids [2 ^ 8, expK]) = true := hK
   rw [Bool.or_eq_true] at hK2
   rcases hK2 with hK2 | hK2
   · obtain ⟨x, hks, hx⟩ := fit1 hK2
     have e : T ++ tk n = T ++ [[114, 101, 103]] ++ tk x ++ [L n.text] ++ [[59]] := by rw [tk_eq, h, hks]; simp [pieces, kid, joinT, sepL]
     rw [e] at hsz ⊢
     exact sp10a n x h hks (ih x (by rw [hks]; simp)) (fP (2 ^ 8) hx (hkf x (by rw [hks]; simp)) rfl) v W0 w pb T ov ht hr hb hp hpo hsz
   · obtain ⟨x, y, hks, hx, hy⟩ := fit2 hK2
     have e : T ++ tk n = T ++ [[114, 101, 103]] ++ tk x ++ [L n.text] ++ [[61]] ++ tk y ++ [[59]] := by rw [tk_eq, h, hks]; simp [pieces, kid, joinT, sepL]
     rw [e] at hsz ⊢
     exact sp10b n x y h hks (ih x (by rw [hks]; simp)) (fP (2 ^ 8) hx (hkf x (by rw [hks]; simp)) rfl) (ih y (by rw [hks]; simp)) (fP (expK) hy (hkf y (by rw [hks]; simp)) rfl) v W0 w pb T ov ht hr hb hp hpo hsz
 by_cases h : n.kind = 21
 · rw [h] at hK
   have hK2 : (fitK n.kids [expK, 2 ^ 23] || fitK n.kids [expK, 2 ^ 23, 2 ^ 23]) = true := hK
   rw [Bool.or_eq_true] at hK2
   rcases hK2 with hK2 | hK2
   · obtain ⟨x, y, hks, hx, hy⟩ := fit2 hK2
     have e : T ++ tk n = T ++ [[119, 104, 101, 110]] ++ tk x ++ tk y := by rw [tk_eq, h, hks]; simp [pieces, kid, joinT, sepL]
     rw [e] at hsz ⊢
     exact sp21a n x y h hks (ih x (by rw [hks]; simp)) (fP (expK) hx (hkf x (by rw [hks]; simp)) rfl) (ih y (by rw [hks]; simp)) (fP (2 ^ 23) hy (hkf y (by rw [hks]; simp)) rfl) v W0 w pb T ov ht hr hb hp hpo hsz
   · obtain ⟨x, y, z, hks, hx, hy, hz⟩ := fit3 hK2
     have e : T ++ tk n = T ++ [[119, 104, 101, 110]] ++ tk x ++ tk y ++ [[101, 108, 115, 101]] ++ tk z := by rw [tk_eq, h, hks]; simp [pieces, kid, joinT, sepL]
     rw [e] at hsz ⊢
     exact sp21b n x y z h hks (ih x (by rw [hks]; simp)) (fP (expK) hx (hkf x (by rw [hks]; simp)) rfl) (ih y (by rw [hks]; simp)) (fP (2 ^ 23) hy (hkf y (by rw [hks]; simp)) rfl) (ih z (by rw [hks]; simp)) (fP (2 ^ 23) hz (hkf z (by rw [hks]; simp)) rfl) v W0 w pb T ov ht hr hb hp hpo hsz
 by_cases h : n.kind = 29
 · rw [h] at hK
   have hK2 : (fitK n.kids [expK, 2 ^ 26] || fitK n.kids [expK, 2 ^ 26, 2 ^ 26 + 2 ^ 29]) = true := hK
   rw [Bool.or_eq_true] at hK2
   rcases hK2 with hK2 | hK2
   · obtain ⟨x, y, hks, hx, hy⟩ := fit2 hK2
     have e : T ++ tk n = T ++ [[105, 102]] ++ tk x ++ tk y := by rw [tk_eq, h, hks]; simp [pieces, kid, joinT, sepL]
     rw [e] at hsz ⊢
     exact sp29a n x y h hks (ih x (by rw [hks]; simp)) (fP (expK) hx (hkf x (by rw [hks]; simp)) rfl) (ih y (by rw [hks]; simp)) (fP (2 ^ 26) hy (hkf y (by rw [hks]; simp)) rfl) v W0 w pb T ov ht hr hb hp hpo hsz
   · obtain ⟨x, y, z, hks, hx, hy, hz⟩ := fit3 hK2
     have e : T ++ tk n = T ++ [[105, 102]] ++ tk x ++ tk y ++ [[101, 108, 115, 101]] ++ tk z := by rw [tk_eq, h, hks]; simp [pieces, kid, joinT, sepL]
     rw [e] at hsz ⊢
     exact sp29b n x y z h hks (ih x (by rw [hks]; simp)) (fP (expK) hx (hkf x (by rw [hks]; simp)) rfl) (ih y (by rw [hks]; simp)) (fP (2 ^ 26) hy (hkf y (by rw [hks]; simp)) rfl) (ih z (by rw [hks]; simp)) (fP (2 ^ 26 + 2 ^ 29) hz (hkf z (by rw [hks]; simp)) rfl) v W0 w pb T ov ht hr hb hp hpo hsz
 by_cases h : n.kind = 3
 · rw [h] at hK
   have hq := allP_of (s := 2 ^ 4) hK hkf (by decide) (by decide) (by decide)
   by_cases hks : n.kids = []
   · have e : T ++ tk n = T := by rw [tk_eq, h, hks]; simp [pieces]
     rw [e]
     exact sp3a n v W0 w pb T ov hr hb hpo h hks
   · have e : T ++ tk n = T ++ [[35]] ++ ([[40]] ++ joinT [44] (n.kids.map tk) ++ [[41]]) := by rw [tk_eq, h]; simp [pieces, joinT, hks]
     rw [e] at hsz ⊢
     exact sp3b n h ih hq hks v W0 w pb T ov ht hr hb hp hpo hsz
 by_cases h : n.kind = 8
 · rw [h] at hK
   have hK2 : (n.kids.isEmpty || fitK n.kids [expK]) = true := hK
   rw [Bool.or_eq_true] at hK2
   rcases hK2 with hK2 | hK2
   · have hks := fit0 hK2
     by_cases hA : L n.text = []
     · have e : T ++ tk n = T := by rw [tk_eq, h, hks]; simp [pieces, hA]
       rw [e]
       exact sp8a n v W0 w pb T ov hr hb hpo h hks hA
     · have e : T ++ tk n = T ++ [L n.text] := by rw [tk_eq, h, hks]; simp [pieces, hA]
       rw [e] at hsz ⊢
       exact sp8c n h hks hA v W0 w pb T ov ht hr hb hp hpo hsz
   · obtain ⟨x, hks, hx⟩ := fit1 hK2
     by_cases hA : L n.text = []
     · have e : T ++ tk n = T ++ ([[91]] ++ joinT [] (([x]).map tk) ++ [[93]]) := by rw [tk_eq, h, hks]; simp [pieces, kid, joinT, hA]
       rw [e] at hsz ⊢
       exact sp8b n x h hks (ih x (by rw [hks]; simp)) (fP (expK) hx (hkf x (by rw [hks]; simp)) rfl) hA v W0 w pb T ov ht hr hb hp hpo hsz
     · have e : T ++ tk n = T ++ [L n.text] ++ ([[91]] ++ joinT [] (([x]).map tk) ++ [[93]]) := by rw [tk_eq, h, hks]; simp [pieces, kid, joinT, hA]
       rw [e] at hsz ⊢
       exact sp8d n x h hks (ih x (by rw [hks]; simp)) (fP (expK) hx (hkf x (by rw [hks]; simp)) rfl) hA v W0 w pb T ov ht hr hb hp hpo hsz
 by_cases h : n.kind = 22
 · rw [h] at hK
   obtain ⟨x, y, z, hks, hx, hy, hzk⟩ := fit3 (ks := n.kids) (by exact hK)
   have z24 : z.kind = 24 := kind_of hzk (by decide) (by decide)
   obtain ⟨hkz, hfz⟩ := kids_fm (hkf z (by rw [hks]; simp))
   rw [z24] at hkz
   have hqz := allP_of (s := 2 ^ 25) hkz hfz (by decide) (by decide) (by decide)
   have ez : tk z = [[40]] ++ sepL [44] (z.kids.map tk) ++ [[41]] := by rw [tk_eq, z24]; simp [pieces]
   have e : T ++ tk n = T ++ [[117, 115, 101]] ++ [L n.text] ++ tk x ++ tk y ++ ([[40]] ++ joinT [44] ((z.kids).map tk) ++ [[41]]) ++ [[59]] := by rw [tk_eq, h, hks]; simp [pieces, kid, joinT, ez]
   rw [e] at hsz ⊢
   exact sp22 n x y z h hks (ih x (by rw [hks]; simp)) (fP (2 ^ 37) hx (hkf x (by rw [hks]; simp)) rfl) (ih y (by rw [hks]; simp)) (fP (2 ^ 3) hy (hkf y (by rw [hks]; simp)) rfl) (ih2 z (by rw [hks]; simp)) hqz v W0 w pb T ov ht hr hb hp hpo hsz
 by_cases h : n.kind = 19
 · rw [h] at hK
   have hK2 : (fitK n.kids [2 ^ 8, 2 ^ 5, expK] && allK (2 ^ 6) ((n.kids.drop 1).headD (.mk 0 ⟨#[]⟩ [])).kids) = true := hK
   rw [Bool.and_eq_true] at hK2
   obtain ⟨x, y, z, hks, hx, hy, hzk⟩ := fit3 hK2.1
   have hpk : allK (2 ^ 6) y.kids = true := by have := hK2.2; rw [hks] at this; exact this
   obtain ⟨hky, hfy⟩ := kids_fm (hkf y (by rw [hks]; simp))
   have hpt : ∀ p ∈ y.kids, PortC p := by
     intro p hp'
     unfold allK at hpk
     have p6 : p.kind = 6 := kind_of (List.all_eq_true.1 hpk p hp') (by decide) (by decide)
     obtain ⟨hkp, hfp'⟩ := kids_fm (hfy p hp')
     rw [p6] at hkp
     obtain ⟨q, hq, hqk⟩ := fit1 (ks := p.kids) (by exact hkp)
     refine ⟨q, hq, ?_, ih3 y (by rw [hks]; simp) p hp' q (by rw [hq]; simp), fmP_of (2 ^ 8) hqk (hfp' q (by rw [hq]; simp)) (by decide) (by decide) (by decide)⟩
     rw [tk_eq p, p6, hq]; simp [pieces, kid]
   have e : T ++ tk n = T ++ [[102, 117, 110, 99]] ++ tk x ++ [L n.text] ++ [[40]] ++ portsT y.kids ++ [[41]] ++ [[61]] ++ tk z ++ [[59]] := by rw [tk_eq, h, hks]; simp [pieces, kid, portsT]; rfl
   rw [e] at hsz ⊢
   exact sp19 n x y z v W0 w pb T ov ht hr hb hp hpo hsz h hks (ih x (by rw [hks]; simp)) (fP (2 ^ 8) hx (hkf x (by rw [hks]; simp)) rfl) (ih z (by rw [hks]; simp)) (fP (expK) hzk (hkf z (by rw [hks]; simp)) rfl) hpt
 by_cases h : n.kind = 2
 · rw [h] at hK
   have hK2 : (decide (2 ≤ n.kids.length) && fitK (n.kids.take 2) [2 ^ 3, 2 ^ 5] && allK itmK (n.kids.drop 2)) = true := hK
   simp only [Bool.and_eq_true, decide_eq_true_eq] at hK2
   obtain ⟨⟨hl2, hf2⟩, ha2⟩ := hK2
   obtain ⟨x, y, r, hks⟩ : ∃ x y r, n.kids = x :: y :: r := by
     match hq : n.kids with
     | [] => rw [hq] at hl2; simp at hl2
     | [x] => rw [hq] at hl2; simp at hl2
     | x :: y :: r => exact ⟨x, y, r, rfl⟩
   rw [hks] at hf2 ha2
   have hxy : hasB (2 ^ 3) x.kind = true ∧ hasB (2 ^ 5) y.kind = true := by simpa [fitK] using hf2
   have y5 : y.kind = 5 := kind_of hxy.2 (by decide) (by decide)
   obtain ⟨hky, hfy⟩ := kids_fm (hkf y (by rw [hks]; simp))
   rw [y5] at hky
   have hqy := allP_of (s := 2 ^ 6 + 2 ^ 7) hky hfy (by decide) (by decide) (by decide)
   have hqr := allP_of (s := itmK) (ks := r) (by simpa using ha2) (fun u hu => hkf u (by rw [hks]; simp [hu])) (by decide) (by decide) (by decide)
   have ey : tk y = [[40]] ++ sepL [44] (y.kids.map tk) ++ [[41]] := by rw [tk_eq, y5]; simp [pieces]
   have qx := fmP_of (x := x) (2 ^ 3) hxy.1 (hkf x (by rw [hks]; simp)) (by decide) (by decide) (by decide)
   by_cases hrn : r = []
   · subst hrn
     have e : T ++ tk n = T ++ [[109, 111, 100, 117, 108, 101]] ++ [L n.text] ++ tk x ++ ([[40]] ++ joinT [44] ((y.kids).map tk) ++ [[41]]) ++ joinT [] ((([] : List Nd)).map tk) ++ [[101, 110, 100]] := by rw [tk_eq, h, hks]; simp [pieces, kid, joinT, ey]
     rw [e] at hsz ⊢
     exact sp2b n x y h hks (ih x (by rw [hks]; simp)) qx (ih2 y (by rw [hks]; simp)) hqy v W0 w pb T ov ht hr hb hp hpo hsz
   · have e : T ++ tk n = T ++ [[109, 111, 100, 117, 108, 101]] ++ [L n.text] ++ tk x ++ ([[40]] ++ joinT [44] ((y.kids).map tk) ++ [[41]]) ++ joinT [] ((r).map tk) ++ [[101, 110, 100]] := by rw [tk_eq, h, hks]; simp [pieces, kid, joinT, ey]
     rw [e] at hsz ⊢
     exact sp2a n x y r h hks (fun u hu => ih u (by rw [hks]; simp [hu])) hqr (ih x (by rw [hks]; simp)) qx (ih2 y (by rw [hks]; simp)) hqy hrn v W0 w pb T ov ht hr hb hp hpo hsz
 by_cases h : n.kind = 30
 · rw [h] at hK
   have hK2 : (match n.kids with | [] => false | x :: xs => hasB expK x.kind && armsB xs) = true := hK
   obtain ⟨x, r, hks⟩ : ∃ x r, n.kids = x :: r := by
     cases hq : n.kids with
     | nil => rw [hq] at hK2; cases hK2
     | cons x r => exact ⟨x, r, rfl⟩
   rw [hks] at hK2
   have hK3 : (hasB expK x.kind && armsB r) = true := hK2
   rw [Bool.and_eq_true] at hK3
   have qx := fmP_of (x := x) expK hK3.1 (hkf x (by rw [hks]; simp)) (by decide) (by decide) (by decide)
   have hqr : ∀ u ∈ r, fmP u := by
     intro u hu
     have hk : u.kind = 31 ∨ u.kind = 32 := arms_kind hK3.2 u hu
     refine ⟨hkf u (by rw [hks]; simp [hu]), ?_, ?_, ?_⟩ <;> rcases hk with hk | hk <;> rw [hk] <;> decide
   by_cases hrn : r = []
   · subst hrn
     have e : T ++ tk n = T ++ [[99, 97, 115, 101]] ++ tk x ++ ([[123]] ++ joinT [] ((([] : List Nd)).map tk) ++ [[125]]) := by rw [tk_eq, h, hks]; simp [pieces, kid, joinT]
     rw [e] at hsz ⊢
     exact sp30b n x h hks (ih x (by rw [hks]; simp)) qx v W0 w pb T ov ht hr hb hp hpo hsz
   · have e : T ++ tk n = T ++ [[99, 97, 115, 101]] ++ tk x ++ ([[123]] ++ joinT [] ((r).map tk) ++ [[125]]) := by rw [tk_eq, h, hks]; simp [pieces, kid, joinT]
     rw [e] at hsz ⊢
     exact sp30a n x r h hks (fun u hu => ih u (by rw [hks]; simp [hu])) hqr (ih x (by rw [hks]; simp)) qx hrn v W0 w pb T ov ht hr hb hp hpo hsz
 by_cases h : n.kind = 31
 · rw [h] at hK
   have hK2 : (decide (2 ≤ n.kids.length) && allK expK n.kids.dropLast && (match n.kids.getLast? with | some x => decide (x.kind = 26) | none => false)) = true := hK
   simp only [Bool.and_eq_true, decide_eq_true_eq] at hK2
   obtain ⟨⟨hl2, ha2⟩, hla⟩ := hK2
   obtain ⟨m, hm⟩ : ∃ m, n.kids.length = m + 1 := ⟨n.kids.length - 1, by omega⟩
   obtain ⟨y, hy⟩ : ∃ y, n.kids[m]? = some y := ⟨_, List.getElem?_eq_getElem (by omega)⟩
   have hgl : n.kids.getLast? = some y := by rw [List.getLast?_eq_getElem?, hm]; exact hy
   rw [hgl] at hla
   have y26 : y.kind = 26 := by simpa using hla
   have hdl : n.kids.dropLast = n.kids.take m := by rw [List.dropLast_eq_take, hm]; rfl
   have hsp : n.kids = n.kids.take m ++ [y] := by
     conv => lhs; rw [← List.take_append_drop m n.kids]
     congr 1
     rw [List.drop_eq_getElem_cons (by omega), List.drop_of_length_le (by omega)]
     have := List.getElem?_eq_getElem (l := n.kids) (i := m) (by omega)
     rw [hy] at this
     rw [← Option.some.inj this]
   have hf : ∀ u ∈ n.kids, fmP u := by
     intro u hu
     rw [hsp, List.mem_append] at hu
     rcases hu with hu | hu
     · rw [hdl] at ha2
       unfold allK at ha2
       exact fmP_of expK (List.all_eq_true.1 ha2 u hu) (hkf u (List.mem_of_mem_take hu)) (by decide) (by decide) (by decide)
     · obtain rfl : u = y := by simpa using hu
       exact ⟨hkf u (List.mem_of_getElem? hy), by rw [y26]; decide, by rw [y26]; decide, by rw [y26]; decide⟩
   have e : T ++ tk n = T ++ joinT [44] ((n.kids.take m).map tk) ++ [[58]] ++ tk y := by
     rw [tk_eq, h]
     have e1 : (n.kids.map tk).dropLast = (n.kids.take m).map tk := by rw [List.dropLast_eq_take, List.length_map, hm, List.map_take]; rfl
     have e2 : kid (n.kids.map tk) ((n.kids.map tk).length - 1) = tk y := by
       unfold kid
       rw [List.length_map, hm, List.getD_eq_getElem?_getD, List.getElem?_map]
       show (Option.map tk n.kids[m]?).getD [] = _
       rw [hy]; rfl
     have e3 : pieces 31 (L n.text) (n.kids.map tk) (n.kids.map fun x => x.kids.map tk) = sepL [44] (n.kids.map tk).dropLast ++ [[58]] ++ kid (n.kids.map tk) ((n.kids.map tk).length - 1) := by simp [pieces]
     rw [e3, e1, e2]; simp [joinT]
   rw [e] at hsz ⊢
   exact sp31 n y m v W0 w pb T ov ht hr hb hp hpo hsz h hm hy ih hf
 exfalso
 have : kdB n.kind n.kids = false := by
   unfold kdB
   simp only [*, or_self, if_false]
 rw [this] at hK; cases hK
theorem spAll3 : ∀ n : Nd, SpC n ∧ (∀ x ∈ n.kids, SpC x) ∧ (∀ x ∈ n.kids, ∀ y ∈ x.kids, SpC y) := Nd.ind fun n ih =>
 ⟨spOne n (fun x hx => (ih x hx).1) (fun x hx => (ih x hx).2.1) (fun x hx => (ih x hx).2.2), fun x hx => (ih x hx).1, fun x hx => (ih x hx).2.1⟩
theorem spAll (n : Nd) : SpC n := (spAll3 n).1
def TP (W : World) (g n : Nat) : Prop := ∀ i, i < n → (∃ x, W.cell? ⟨g, i * 3, none⟩ = some x) ∧ (∃ x, W.cell? ⟨g, i * 3 + 1, none⟩ = some x) ∧ (∃ x, W.cell? ⟨g, i * 3 + 2, none⟩ = some x) ∧ W.frozen? ⟨g, i * 3, none⟩ = false ∧ W.frozen? ⟨g, i * 3 + 1, none⟩ = false ∧ W.frozen? ⟨g, i * 3 + 2, none⟩ = false
def NR (W : World) (B g n : Nat) (ks : List Nd) (vs : Nat → Value) : Prop := ∀ i x, i < n → ks[i]? = some x → W.cell? ⟨g, i * 3, none⟩ = some (.int .i64 x.kind) ∧ W.cell? ⟨g, i * 3 + 1, none⟩ = some (.string x.text) ∧ W.cell? ⟨g, i * 3 + 2, none⟩ = some (vs i) ∧ RdB W B x.kids (vs i)
theorem ne_off {g o o' : Nat} (h : o ≠ o') : (⟨g, o, none⟩ : Addr) ≠ ⟨g, o', none⟩ := fun e => h (by injection e)
theorem set_same {w : World} {a : Addr} {v u : Value} (h : w.cell? a = some u) : (w.setCell a v).cell? a = some v := World.cell?_setCell_same (w := w) (a := a) (v := v) h
theorem set_other {w : World} {a b : Addr} {v : Value} (h : a ≠ b) : (w.setCell a v).cell? b = w.cell? b := World.cell?_setCell_other (w := w) (a := a) (b := b) (v := v) h
theorem set_frozen {w : World} {a b : Addr} {v : Value} : (w.setCell a v).frozen? b = w.frozen? b := by simp
theorem set_some {w : World} {g o o' : Nat} {v : Value} (h : ∃ x, w.cell? ⟨g, o', none⟩ = some x) : ∃ x, (w.setCell ⟨g, o, none⟩ v).cell? ⟨g, o', none⟩ = some x := by
 obtain ⟨x, hx⟩ := h
 by_cases e : o = o'
 · subst e; exact ⟨v, set_same hx⟩
 · exact ⟨x, by rw [set_other (ne_off e)]; exact hx⟩
theorem TP_set {w : World} {g n o : Nat} {v : Value} (h : TP w g n) : TP (w.setCell ⟨g, o, none⟩ v) g n := fun i hi => by
 obtain ⟨a, b, c, d, e, f⟩ := h i hi
 exact ⟨set_some a, set_some b, set_some c, by rw [set_frozen]; exact d, by rw [set_frozen]; exact e, by rw [set_frozen]; exact f⟩
theorem TP_later {w v : World} {g n : Nat} (h : TP w g n) (hb : Below w.heap.size w v) : TP v g n := fun i hi => by
 obtain ⟨⟨x, a⟩, ⟨y, b⟩, ⟨z, c⟩, d, e, f⟩ := h i hi
 exact ⟨⟨x, c_ hb a⟩, ⟨y, c_ hb b⟩, ⟨z, c_ hb c⟩, frozen_later hb a d, frozen_later hb b e, frozen_later hb c f⟩
theorem RdB_set {w : World} {B g o : Nat} {v u : Value} {ks : List Nd} (h : RdB w B ks v) (hg : g < B) : RdB (w.setCell ⟨g, o, none⟩ u) B ks v :=
 RdB_keep (fun b o' x hb hx => by rw [set_other (fun e => by injection e; omega)]; exact hx) h
theorem NR_set {w : World} {B g n o : Nat} {v : Value} {ks : List Nd} {vs : Nat → Value} (h : NR w B g n ks vs) (hg : g < B) (ho : n * 3 ≤ o) : NR (w.setCell ⟨g, o, none⟩ v) B g n ks vs := fun i x hi hx => by
 obtain ⟨a, b, c, d⟩ := h i x hi hx
 exact ⟨by rw [set_other (ne_off (by omega))]; exact a, by rw [set_other (ne_off (by omega))]; exact b, by rw [set_other (ne_off (by omega))]; exact c, RdB_set d hg⟩
theorem NR_later {w v : World} {B g n : Nat} {ks : List Nd} {vs : Nat → Value} (h : NR w B g n ks vs) (hb : Below w.heap.size w v) : NR v B g n ks vs := fun i x hi hx => by
 obtain ⟨a, b, c, d⟩ := h i x hi hx
 exact ⟨c_ hb a, c_ hb b, c_ hb c, RdB_later hb d⟩
theorem TP_made (w : World) (M : Array Value) (n : Nat) (h : M.size = n * 3) : TP (w.alloc (.cells M 30)) w.heap.size n := fun i hi => by
 refine ⟨⟨M[i * 3]'(by omega), ?_⟩, ⟨M[i * 3 + 1]'(by omega), ?_⟩, ⟨M[i * 3 + 2]'(by omega), ?_⟩, ?_, ?_, ?_⟩
 · rw [World.cell?_alloc_new]; exact Array.getElem?_eq_getElem (by omega)
 · rw [World.cell?_alloc_new]; exact Array.getElem?_eq_getElem (by omega)
 · rw [World.cell?_alloc_new]; exact Array.getElem?_eq_getElem (by omega)
 · simp
 · simp
 · simp
theorem info29 : (Tryz.prog.info? 30).map (fun i => (i.zero, i.size, i.bytes)) = some (some (.agg #[.int .i64 0, .string ByteArray.empty, .slice none 0 0]), 3, 48) := by kernel_rfl
theorem make29 (n : Nat) (hn : n ≤ 1048576) : ∃ M : Array Value, M.size = n * 3 ∧ ∀ W : World, (Instr.makeSlice 28 (.int .i64 (n : Int)) (.int .i64 (n : Int))).run Tryz.prog W = .ok (.slice (some ⟨W.heap.size, 0, none⟩) n n) (W.alloc (.cells M 30)) := by
 obtain ⟨i29, hi, hz0, hz1, hz2⟩ := info_parts info29
 refine ⟨_, size_madeCells #[.int .i64 0, .string ByteArray.empty, .slice none 0 0] (n * 3), fun W => ?_⟩
 have hr := run_make (P := Tryz.prog) W 28 30 i29 _ (by kernel_rfl) hi hz0 .i64 .i64 n n (by omega) (Int.le_refl _) (by rw [hz2]; omega) (by omega)
 rw [hr, hz1]
 simp
 rfl
def ToC (n : Nd) : Prop := ∀ (v : Value) (w : World), sz n ≤ 1048576 → RdK w n.kids v →
 Calls Tryz.prog 6 #[ndV n v] w fun e w' => (∃ v', e = .returned (ndV n v') ∧ RdB w' w.heap.size n.kids v') ∧ Below w.heap.size w w'
set_option maxHeartbeats 400000 in
theorem toS_of (ks : List Nd) (hP : ∀ x ∈ ks, ToC x) (v : Value) (w : World) (hl : szL ks ≤ 1048576) (hr : RdK w ks v) :
   Calls Tryz.prog 12 #[v] w fun e w' => (∃ v', e = .returned v' ∧ RdB w' w.heap.size ks v') ∧ Below w.heap.size w w' := by
 have hsm := szL_sm ks
 obtain ⟨M, hM, hmk⟩ := make29 ks.length (by omega)
 have HP := h_ hP
 clear hP
 rcases RdK_cases hr with ⟨rfl, a, c, rfl⟩ | ⟨b, o, c, vs, rfl, hn, hcs⟩
 · have hmk0 : ∀ W : World, (Instr.makeSlice 28 (.int .i64 0) (.int .i64 0)).run Tryz.prog W = .ok (.slice (some ⟨W.heap.size, 0, none⟩) 0 0) (W.alloc (.cells M 30)) := hmk
   clear hsm hr HP hmk
   go_enter Tryz.func12, Tryz.ntmps12
   go_wp2
   go_loopw [4] (fun i W => i = .int .i64 0 ∧ Below w.heap.size w W) (fun _ _ => 0)
   case atStart => exact ⟨rfl, bal (brf w) _⟩
   case round =>
     obtain ⟨rfl, hb⟩ := hrel
     have HB := h_ hb
     clear hb
     go_wp2
     exact bodyPost_ret (v := .slice (some ⟨w.heap.size, 0, none⟩) 0 0) (by simp [results, Tryz.results12, go_sem]) rfl ⟨⟨_, rfl, .nil _ _⟩, u_ HB⟩
 · unfold maxLen at hn
   have HC := h_ hcs
   have HTP := h_ (TP_made w M ks.length hM)
   clear hcs hr hM
   go_enter Tryz.func12, Tryz.ntmps12
   go_wp2
   clear hmk
   go_loopw [4] (fun i W => ∃ (j : Nat) (us : Nat → Value), j ≤ ks.length ∧ i = .int .i64 j ∧ TP W w.heap.size ks.length ∧ NR W (w.heap.size + 1) w.heap.size j ks us ∧ Below w.heap.size w W ∧ w.heap.size + 1 ≤ W.heap.size) (fun i W => ks.length - (intOf i).toNat)
   case atStart => exact ⟨0, fun _ => .bool true, Nat.zero_le _, rfl, u_ HTP, fun i x hi => absurd hi (Nat.not_lt_zero _), bal (brf w) _, by simp⟩
   case round =>
     clear HTP
     obtain ⟨j, us, hj, rfl, hTP, hNR, hb, hsz⟩ := hrel
     have HTP := h_ hTP
     have HNR := h_ hNR
     by_cases hjn : j < ks.length
     · have hx : ks[j]? = some ks[j] := List.getElem?_eq_getElem hjn
       generalize ks[j] = x at hx
       obtain ⟨k1, k2, k3, hts, hk⟩ := u_ HC j x hx
       have k1' := c_ hb k1
       have k2' := c_ hb k2
       have k3' := c_ hb k3
       have st := sm_take hx
       have sl := sm_le (ks := ks) (j + 1)
       have PX := h_ (u_ HP x (List.mem_of_getElem? hx) (vs j) wr (by omega) (RdK_later hb hk))
       unfold ndV at PX
       obtain ⟨⟨y1, c1⟩, ⟨y2, c2⟩, ⟨y3, c3⟩, f1, f2, f3⟩ := hTP j hjn
       have HB := h_ hb
       have HX := h_ hx
       clear hb k1 k2 k3 hk hTP hNR hx
       go_wp2_with (go_at_call 6; refine (u_ PX).mono ?_; rintro e v1 ⟨⟨v', rfl, hrd⟩, hb1⟩; obtain ⟨a', c', rfl⟩ := RdB_slice hrd; have d1 := c_ hb1 c1; have d2 := c_ hb1 c2; have d3 := c_ hb1 c3; have g1 := frozen_later hb1 c1 f1; have g2 := frozen_later hb1 c2 f2; have g3 := frozen_later hb1 c3 f3)
       have hgs : w.heap.size < wr.heap.size := by omega
       have hB1 : Below w.heap.size w v1 := below_step (u_ HB) hb1
       have hP1 := TP_set (o := j * 3 + 2) (v := .slice a' x.kids.length c') (TP_set (o := j * 3 + 1) (v := .string x.text) (TP_set (o := j * 3) (v := .int .i64 x.kind) (TP_later (u_ HTP) hb1)))
       have hN1 := NR_set (o := j * 3 + 2) (v := .slice a' x.kids.length c') (NR_set (o := j * 3 + 1) (v := .string x.text) (NR_set (o := j * 3) (v := .int .i64 x.kind) (NR_later (u_ HNR) hb1) (by omega) (by omega)) (by omega) (by omega)) (by omega) (by omega)
       refine ⟨⟨j + 1, fun i => if i = j then .slice a' x.kids.length c' else us i, by omega, by go_num, hP1, ?_, ((hB1.setCell (p := ⟨w.heap.size, j * 3, none⟩) (Nat.le_refl _) _).setCell (p := ⟨w.heap.size, j * 3 + 1, none⟩) (Nat.le_refl _) _).setCell (p := ⟨w.heap.size, j * 3 + 2, none⟩) (Nat.le_refl _) _, by have := hb1.size; simp; omega⟩, by simp [intOf]; omega⟩
       intro i y hi hy
       by_cases e : i = j
       · subst e
         obtain rfl : y = x := Option.some.inj (hy.symm.trans (u_ HX))
         refine ⟨?_, ?_, ?_, ?_⟩
         · rw [set_other (ne_off (by omega)), set_other (ne_off (by omega)), set_same d1]
         · rw [set_other (ne_off (by omega)), set_same (u := y2) (by rw [set_other (ne_off (by omega))]; exact d2)]
         · rw [set_same (u := y3) (by rw [set_other (ne_off (by omega)), set_other (ne_off (by omega))]; exact d3)]; simp
         · simp only [if_true]
           exact RdB_set (RdB_set (RdB_set (RdB_mono (by omega) hrd) (by omega)) (by omega)) (by omega)
       · have := hN1 i y (by omega) hy
         simpa only [if_neg e] using this
     · obtain rfl : j = ks.length := by omega
       have HB := h_ hb
       clear hb hTP hNR
       go_wp2
       refine bodyPost_ret (v := .slice (some ⟨w.heap.size, 0, none⟩) ks.length ks.length) (by simp [results, Tryz.results12, go_sem]) rfl ⟨⟨_, rfl, ?_⟩, u_ HB⟩
       refine RdB.row _ 0 _ ks us (Nat.le_refl _) hn (Nat.le_refl _) (fun i x hx => ?_) (fun i x hx => ?_)
       · obtain ⟨a, b, c, d⟩ := u_ HNR i x (List.getElem?_eq_some_iff.1 hx).1 hx
         rw [Nat.zero_add]
         exact ⟨a, b, c, (u_ HC i x hx).2.2.2.1⟩
       · exact RdB_mono (Nat.le_succ _) (u_ HNR i x (List.getElem?_eq_some_iff.1 hx).1 hx).2.2.2
theorem toN : ∀ n, ToC n := by
 refine Nd.ind fun n ih => ?_
 intro v w hl hr
 have hsz := sz_mk n
 have SS := h_ (fun w' hr' => toS_of n.kids ih v w' (by omega) hr')
 have HR := h_ hr
 obtain ⟨a, c, rfl⟩ := RdK_slice hr
 unfold ndV
 clear hr
 generalize n.kind = xk, n.text = xt at *
 go_enter Tryz.func6, Tryz.ntmps6
 go_wp2_with (go_at_call 12; refine (u_ SS _ (RdK_later (by repeat first | exact brf _ | refine bal ?_ _) (u_ HR))).mono ?_; rintro e v1 ⟨⟨v', rfl, hrd⟩, hb1⟩; obtain ⟨a', c', rfl⟩ := RdB_slice hrd; obtain ⟨hc1, hf1⟩ := bcell hb1)
 have hrd' : RdB v1 (w.heap.size + 3) n.kids (.slice a' n.kids.length c') := RdB_mono (by simp) hrd
 have hbv : Below w.heap.size w v1 := btr (bal (bal (bal (brf w) _) _) _) hb1
 refine bodyPost_ret (v := .agg #[.int .i64 xk, .string xt, .slice a' n.kids.length c']) (by simp [results, Tryz.results6, go_sem, hc1]) rfl ⟨⟨_, rfl, ?_⟩, ?_⟩
 · exact RdB_mono (by omega) (RdB_set (RdB_set (RdB_set (RdB_set hrd' (by omega)) (by omega)) (by omega)) (by omega))
 · exact bst (bst (bst (bst hbv (by simp; omega) _) (by simp) _) (by simp) _) (by simp) _
theorem keep6 {W V v1 : World} {a b c d e f : Addr} {x y z x' y' z' : Value} (h : V.cell? a = some x ∧ V.cell? b = some y ∧ V.cell? c = some z ∧ V.cell? d = some x' ∧ V.cell? e = some y' ∧ V.cell? f = some z' ∧ Below W.heap.size W V) (hb : Below V.heap.size V v1) :
   v1.cell? a = some x ∧ v1.cell? b = some y ∧ v1.cell? c = some z ∧ v1.cell? d = some x' ∧ v1.cell? e = some y' ∧ v1.cell? f = some z' ∧ Below W.heap.size W v1 :=
 ⟨c_ hb h.1, c_ hb h.2.1, c_ hb h.2.2.1, c_ hb h.2.2.2.1, c_ hb h.2.2.2.2.1, c_ hb h.2.2.2.2.2.1, below_step h.2.2.2.2.2.2 hb⟩
theorem below6 {W V : World} {a b c d e f : Addr} {x y z x' y' z' : Value} (h : V.cell? a = some x ∧ V.cell? b = some y ∧ V.cell? c = some z ∧ V.cell? d = some x' ∧ V.cell? e = some y' ∧ V.cell? f = some z' ∧ Below W.heap.size W V) : Below W.heap.size W V := h.2.2.2.2.2.2
def EqC (n : Nd) : Prop := ∀ (v1 v2 : Value) (w : World), RdK w n.kids v1 → RdK w n.kids v2 →
 CB 8 #[ndV n v1, ndV n v2] w (.bool true)
theorem eqS0 (a1 a2 : Option Addr) (c1 c2 : Nat) (w : World) : CB 17 #[.slice a1 0 c1, .slice a2 0 c2] w (.bool true) := by
 go_enter Tryz.func17, Tryz.ntmps17
 go_wp2
 go_loopw [5] (fun i wr => i = .int .i64 0 ∧ Below w.heap.size w wr) (fun i wr => 0)
 case atStart => exact ⟨rfl, brf _⟩
 case round =>
   obtain ⟨rfl, hb⟩ := hrel
   have HB := h_ hb
   clear hb
   go_wp2
   exact bodyPost_ret (v := .bool true) (by simp [results, Tryz.results17, go_sem]) rfl ⟨rfl, u_ HB⟩
set_option maxHeartbeats 400000 in
theorem eqS_of (ks : List Nd) (hP : ∀ x ∈ ks, EqC x) (v1 v2 : Value) (w : World) (h1 : RdK w ks v1) (h2 : RdK w ks v2) :
   CB 17 #[v1, v2] w (.bool true) := by
 have HP := h_ hP
 clear hP
 rcases RdK_cases h1 with ⟨rfl, a1, c1, rfl⟩ | ⟨b1, o1, c1, vs1, rfl, hn, hc1⟩
 · obtain ⟨a2, c2, rfl⟩ := RdK_slice h2
   exact eqS0 _ _ _ _ w
 · rcases RdK_cases h2 with ⟨rfl, a2, c2, rfl⟩ | ⟨b2, o2, c2, vs2, rfl, _, hc2⟩
   · exact eqS0 _ _ _ _ w
   · unfold maxLen at hn
     have HC1 := h_ hc1
     have HC2 := h_ hc2
     clear hc1 hc2 h1 h2
     go_enter Tryz.func17, Tryz.ntmps17
     go_wp2
     go_loopw [5] (fun i wr => ∃ j : Nat, j ≤ ks.length ∧ i = .int .i64 j ∧ Below w.heap.size w wr) (fun i wr => ks.length - (intOf i).toNat)
     case atStart => exact ⟨0, Nat.zero_le _, rfl, brf _⟩
     case round =>
       obtain ⟨j, hj, rfl, hb⟩ := hrel
       by_cases hjn : j < ks.length
       · have hx : ks[j]? = some ks[j] := List.getElem?_eq_getElem hjn
         generalize ks[j] = x at hx
         obtain ⟨k1, k2, k3, _, hk⟩ := u_ HC1 j x hx
         obtain ⟨m1, m2, m3, _, hm⟩ := u_ HC2 j x hx
         have k1' := c_ hb k1
         have k2' := c_ hb k2
         have k3' := c_ hb k3
         have m1' := c_ hb m1
         have m2' := c_ hb m2
         have m3' := c_ hb m3
         have PX := h_ (fun (wy : World) (hy : Below wr.heap.size wr wy) => u_ HP x (List.mem_of_getElem? hx) (vs1 j) (vs2 j) wy (RdK_later hy (RdK_later hb hk)) (RdK_later hy (RdK_later hb hm)))
         unfold ndV at PX
         have HB := h_ hb
         clear hb k1 k2 k3 hk m1 m2 m3 hm
         generalize x.kind = xk at *
         generalize x.text = xt at *
         generalize vs1 j = u at *
         generalize vs2 j = u' at *
         go_wp2
         go_region_held3 (fun w' => w'.cell? ⟨b1, o1 + j * 3, none⟩ = some (.int .i64 xk) ∧ w'.cell? ⟨b1, o1 + j * 3 + 1, none⟩ = some (.string xt) ∧ w'.cell? ⟨b1, o1 + j * 3 + 2, none⟩ = some u ∧ w'.cell? ⟨b2, o2 + j * 3, none⟩ = some (.int .i64 xk) ∧ w'.cell? ⟨b2, o2 + j * 3 + 1, none⟩ = some (.string xt) ∧ w'.cell? ⟨b2, o2 + j * 3 + 2, none⟩ = some u' ∧ Below wr.heap.size wr w')
           (first | (exact ⟨k1', k2', k3', m1', m2', m3', bdr (brf _)⟩) | (exact keep6 (by assumption) hb1))
           (first | (go_at_call 8; refine (u_ PX _ (below6 (by assumption))).mono ?_; rintro e v1 ⟨rfl, hb1⟩))
         all_goals
           have hSf : v1.cell? ⟨b1, o1 + j * 3, none⟩ = some (.int .i64 xk) ∧ v1.cell? ⟨b1, o1 + j * 3 + 1, none⟩ = some (.string xt) ∧ v1.cell? ⟨b1, o1 + j * 3 + 2, none⟩ = some u ∧ v1.cell? ⟨b2, o2 + j * 3, none⟩ = some (.int .i64 xk) ∧ v1.cell? ⟨b2, o2 + j * 3 + 1, none⟩ = some (.string xt) ∧ v1.cell? ⟨b2, o2 + j * 3 + 2, none⟩ = some u' ∧ Below wr.heap.size wr v1 := by assumption
           have HB2 := h_ (below_step (u_ HB) (below6 hSf))
           clear hSf k1' k2' k3' m1' m2' m3'
           go_wp2
           exact ⟨⟨j + 1, by omega, by go_num, u_ HB2⟩, by simp [intOf]; omega⟩
       · obtain rfl : j = ks.length := by omega
         have HB := h_ hb
         clear hb
         go_wp2
         exact bodyPost_ret (v := .bool true) (by simp [results, Tryz.results17, go_sem]) rfl ⟨rfl, u_ HB⟩
theorem eqN : ∀ n, EqC n := by
 refine Nd.ind fun n ih => ?_
 intro v1 v2 w h1 h2
 have SS := h_ (fun w' h1' h2' => eqS_of n.kids ih v1 v2 w' h1' h2')
 have HR1 := h_ h1
 have HR2 := h_ h2
 obtain ⟨a1, c1, rfl⟩ := RdK_slice h1
 obtain ⟨a2, c2, rfl⟩ := RdK_slice h2
 unfold ndV
 clear h1 h2
 generalize n.kind = xk, n.text = xt at *
 go_enter Tryz.func8, Tryz.ntmps8
 go_wp2_with (go_at_call 17; refine (u_ SS _ (RdK_later (bal (bal (brf w) _) _) (u_ HR1)) (RdK_later (bal (bal (brf w) _) _) (u_ HR2))).mono ?_; rintro e v1 ⟨rfl, hb1⟩)
 go_ret
 exact ⟨rfl, btr (bal (bal (brf w) _) _) hb1⟩
end Go.Proofs.YtddlokkejglckaaGreatDoor
