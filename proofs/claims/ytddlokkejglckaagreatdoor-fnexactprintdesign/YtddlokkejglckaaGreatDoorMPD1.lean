/- Parts of the proof: PD1 to RDT. -/
import Derived.Test.YtddlokkejglckaaGreatDoorMTK0
import Derived.Test.YtddlokkejglckaaGreatDoorMBits
namespace Go.Proofs.YtddlokkejglckaaGreatDoor.Nt
set_option linter.unusedSimpArgs false
def sumT (T : List (List Tok)) : Nat := (T.map fun x => sizeT x + 2).sum
theorem sizeT_cons (s : Tok) (T : List Tok) : sizeT (s :: T) = s.length + 1 + sizeT T := by simp [sizeT]
theorem sizeT_nil : sizeT [] = 0 := rfl
theorem sumT_cons (x : List Tok) (T : List (List Tok)) : sumT (x :: T) = sizeT x + 2 + sumT T := by simp [sumT]
theorem flat_le (T : List (List Tok)) : sizeT T.flatten ≤ sumT T := by
 induction T with
 | nil => exact Nat.le_refl _
 | cons x xs ih => rw [List.flatten_cons, sizeT_app, sumT_cons]; omega
theorem fm44 (T : List (List Tok)) : sizeT (T.flatMap fun y => ([44] : Tok) :: y) ≤ sumT T := by
 induction T with
 | nil => exact Nat.le_refl _
 | cons x xs ih => rw [List.flatMap_cons, sizeT_app, sizeT_cons, sumT_cons]; simp; omega
theorem sep_le (T : List (List Tok)) : sizeT (sepL [44] T) ≤ sumT T := by
 cases T with
 | nil => exact Nat.le_refl _
 | cons x xs => rw [sepL, sizeT_app, sumT_cons]; have := fm44 xs; omega
theorem kid_le (T : List (List Tok)) : sizeT (kid T 0) + sizeT (kid T 1) + sizeT (kid T 2) ≤ sumT T := by
 match T with
 | [] => exact Nat.le_refl _
 | [a] => simp only [sumT_cons]; simp [kid, sizeT_nil]; omega
 | [a, b] => simp only [sumT_cons]; simp [kid, sizeT_nil]; omega
 | a :: b :: c :: r => simp only [sumT_cons]; simp [kid]; omega
theorem kid2_le (T : List (List Tok)) : sizeT (kid T 0) + sizeT (kid T 1) + sizeT (T.drop 2).flatten ≤ sumT T := by
 match T with
 | [] => exact Nat.le_refl _
 | [a] => simp only [sumT_cons]; simp [kid, sizeT_nil]; omega
 | a :: b :: r => have := flat_le r; simp only [sumT_cons]; simp [kid]; omega
theorem kid1_le (T : List (List Tok)) : sizeT (kid T 0) + sizeT (T.drop 1).flatten ≤ sumT T := by
 match T with
 | [] => exact Nat.le_refl _
 | a :: r => have := flat_le r; simp only [sumT_cons]; simp [kid]; omega
theorem sumT_app (T U : List (List Tok)) : sumT (T ++ U) = sumT T + sumT U := by simp [sumT]
theorem last_le (T : List (List Tok)) : sizeT (sepL [44] T.dropLast) + sizeT (kid T (T.length - 1)) ≤ sumT T := by
 refine snocInd (p := fun T => sizeT (sepL [44] T.dropLast) + sizeT (kid T (T.length - 1)) ≤ sumT T) (Nat.le_refl _) ?_ T
 intro T y _
 have h := sep_le T
 rw [sumT_app]
 have e : kid (T ++ [y]) ((T ++ [y]).length - 1) = y := by simp [kid]
 rw [e, List.dropLast_concat, sumT_cons]
 omega
theorem pieces_le (k : Int) (t : Tok) (T : List (List Tok)) (TT : List (List (List Tok))) (h : k ≠ 19) : sizeT (pieces k t T TT) ≤ 60 + t.length + sumT T := by
 have h1 := flat_le T
 have h2 := sep_le T
 have h3 := kid_le T
 have h4 := kid2_le T
 have h5 := kid1_le T
 have h6 := last_le T
 unfold pieces
 by_cases c : k = 1
 · rw [if_pos c]; omega
 rw [if_neg c]
 clear c
 by_cases c : k = 2
 · rw [if_pos c]; simp only [sizeT_app, sizeT_cons, sizeT_nil, List.length_cons, List.length_nil, List.cons_append, List.nil_append]; omega
 rw [if_neg c]
 clear c
 by_cases c : k = 3
 · rw [if_pos c]; by_cases d : T = []
   · rw [if_pos d, sizeT_nil]; omega
   · rw [if_neg d]; simp only [sizeT_app, sizeT_cons, sizeT_nil, List.length_cons, List.length_nil, List.cons_append, List.nil_append]; omega
 rw [if_neg c]
 clear c
 by_cases c : k = 4
 · rw [if_pos c]; simp only [sizeT_app, sizeT_cons, sizeT_nil, List.length_cons, List.length_nil, List.cons_append, List.nil_append]; omega
 rw [if_neg c]
 clear c
 by_cases c : k = 5 ∨ k = 24
 · rw [if_pos c]; simp only [sizeT_app, sizeT_cons, sizeT_nil, List.length_cons, List.length_nil, List.cons_append, List.nil_append]; omega
 rw [if_neg c]
 clear c
 by_cases c : k = 6
 · rw [if_pos c]; simp only [sizeT_app, sizeT_cons, sizeT_nil, List.length_cons, List.length_nil, List.cons_append, List.nil_append]; omega
 rw [if_neg c]
 clear c
 by_cases c : k = 7
 · rw [if_pos c]; simp only [sizeT_app, sizeT_cons, sizeT_nil, List.length_cons, List.length_nil, List.cons_append, List.nil_append]; omega
 rw [if_neg c]
 clear c
 by_cases c : k = 8
 · rw [if_pos c, sizeT_app]
   have e1 : sizeT (if t = [] then [] else [t]) ≤ t.length + 1 := by by_cases d : t = [] <;> simp [d, sizeT]
   have e2 : sizeT (if T = [] then [] else [[91]] ++ kid T 0 ++ [[93]]) ≤ sumT T + 4 := by
     by_cases d : T = []
     · rw [if_pos d, sizeT_nil]; omega
     · rw [if_neg d]; simp only [sizeT_app, sizeT_cons, sizeT_nil, List.length_cons, List.length_nil, List.cons_append, List.nil_append]; omega
   omega
 rw [if_neg c]
 clear c
 by_cases c : k = 9
 · rw [if_pos c]; simp only [sizeT_app, sizeT_cons, sizeT_nil, List.length_cons, List.length_nil, List.cons_append, List.nil_append]; omega
 rw [if_neg c]
 clear c
 by_cases c : k = 10
 · rw [if_pos c]
   by_cases d : T.length ≤ 1
   · rw [if_pos d]; simp only [sizeT_app, sizeT_cons, sizeT_nil, List.length_cons, List.length_nil, List.cons_append, List.nil_append]; omega
   · rw [if_neg d]; simp only [sizeT_app, sizeT_cons, sizeT_nil, List.length_cons, List.length_nil, List.cons_append, List.nil_append]; omega
 rw [if_neg c]
 clear c
 by_cases c : k = 11
 · rw [if_pos c]; simp only [sizeT_app, sizeT_cons, sizeT_nil, List.length_cons, List.length_nil, List.cons_append, List.nil_append]; omega
 rw [if_neg c]
 clear c
 by_cases c : k = 12
 · rw [if_pos c]; simp only [sizeT_app, sizeT_cons, sizeT_nil, List.length_cons, List.length_nil, List.cons_append, List.nil_append]; omega
 rw [if_neg c]
 clear c
 by_cases c : k = 13
 · rw [if_pos c]; simp only [sizeT_app, sizeT_cons, sizeT_nil, List.length_cons, List.length_nil, List.cons_append, List.nil_append]; omega
 rw [if_neg c]
 clear c
 by_cases c : k = 14
 · rw [if_pos c]; simp only [sizeT_app, sizeT_cons, sizeT_nil, List.length_cons, List.length_nil, List.cons_append, List.nil_append]; omega
 rw [if_neg c]
 clear c
 by_cases c : k = 15
 · rw [if_pos c]; simp only [sizeT_app, sizeT_cons, sizeT_nil, List.length_cons, List.length_nil, List.cons_append, List.nil_append]; omega
 rw [if_neg c]
 clear c
 by_cases c : k = 16
 · rw [if_pos c]; simp only [sizeT_app, sizeT_cons, sizeT_nil, List.length_cons, List.length_nil, List.cons_append, List.nil_append]; omega
 rw [if_neg c]
 clear c
 by_cases c : k = 17
 · rw [if_pos c]; simp only [sizeT_app, sizeT_cons, sizeT_nil, List.length_cons, List.length_nil, List.cons_append, List.nil_append]; omega
 rw [if_neg c]
 clear c
 by_cases c : k = 18
 · rw [if_pos c]; simp only [sizeT_app, sizeT_cons, sizeT_nil, List.length_cons, List.length_nil, List.cons_append, List.nil_append]; omega
 rw [if_neg c]
 clear c
 rw [if_neg h]
 by_cases c : k = 20 ∨ k = 33
 · rw [if_pos c]; simp only [sizeT_app, sizeT_cons, sizeT_nil, List.length_cons, List.length_nil, List.cons_append, List.nil_append]; omega
 rw [if_neg c]
 clear c
 by_cases c : k = 21
 · rw [if_pos c]
   by_cases d : T.length ≤ 2
   · rw [if_pos d]; simp only [sizeT_app, sizeT_cons, sizeT_nil, List.length_cons, List.length_nil, List.cons_append, List.nil_append]; omega
   · rw [if_neg d]; simp only [sizeT_app, sizeT_cons, sizeT_nil, List.length_cons, List.length_nil, List.cons_append, List.nil_append]; omega
 rw [if_neg c]
 clear c
 by_cases c : k = 29
 · rw [if_pos c]
   by_cases d : T.length ≤ 2
   · rw [if_pos d]; simp only [sizeT_app, sizeT_cons, sizeT_nil, List.length_cons, List.length_nil, List.cons_append, List.nil_append]; omega
   · rw [if_neg d]; simp only [sizeT_app, sizeT_cons, sizeT_nil, List.length_cons, List.length_nil, List.cons_append, List.nil_append]; omega
 rw [if_neg c]
 clear c
 by_cases c : k = 22
 · rw [if_pos c]; simp only [sizeT_app, sizeT_cons, sizeT_nil, List.length_cons, List.length_nil, List.cons_append, List.nil_append]; omega
 rw [if_neg c]
 clear c
 by_cases c : k = 23 ∨ k = 26
 · rw [if_pos c]; simp only [sizeT_app, sizeT_cons, sizeT_nil, List.length_cons, List.length_nil, List.cons_append, List.nil_append]; omega
 rw [if_neg c]
 clear c
 by_cases c : k = 25
 · rw [if_pos c]; simp only [sizeT_app, sizeT_cons, sizeT_nil, List.length_cons, List.length_nil, List.cons_append, List.nil_append]; omega
 rw [if_neg c]
 clear c
 by_cases c : k = 27
 · rw [if_pos c]; simp only [sizeT_app, sizeT_cons, sizeT_nil, List.length_cons, List.length_nil, List.cons_append, List.nil_append]; omega
 rw [if_neg c]
 clear c
 by_cases c : k = 28
 · rw [if_pos c]; simp only [sizeT_app, sizeT_cons, sizeT_nil, List.length_cons, List.length_nil, List.cons_append, List.nil_append]; omega
 rw [if_neg c]
 clear c
 by_cases c : k = 30
 · rw [if_pos c]; simp only [sizeT_app, sizeT_cons, sizeT_nil, List.length_cons, List.length_nil, List.cons_append, List.nil_append]; omega
 rw [if_neg c]
 clear c
 by_cases c : k = 31
 · rw [if_pos c]; simp only [sizeT_app, sizeT_cons, sizeT_nil, List.length_cons, List.length_nil, List.cons_append, List.nil_append]; omega
 rw [if_neg c]
 clear c
 by_cases c : k = 32
 · rw [if_pos c]; simp only [sizeT_app, sizeT_cons, sizeT_nil, List.length_cons, List.length_nil, List.cons_append, List.nil_append]; omega
 rw [if_neg c]
 clear c
 by_cases c : k = 34
 · rw [if_pos c]; simp only [sizeT_app, sizeT_cons, sizeT_nil, List.length_cons, List.length_nil, List.cons_append, List.nil_append]; omega
 rw [if_neg c]
 clear c
 by_cases c : k = 35
 · rw [if_pos c]; simp only [sizeT_app, sizeT_cons, sizeT_nil, List.length_cons, List.length_nil, List.cons_append, List.nil_append]; omega
 rw [if_neg c]
 clear c
 by_cases c : k = 38
 · rw [if_pos c]; simp only [sizeT_app, sizeT_cons, sizeT_nil, List.length_cons, List.length_nil, List.cons_append, List.nil_append]; omega
 rw [if_neg c]
 clear c
 by_cases c : k = 39
 · rw [if_pos c]; simp only [sizeT_app, sizeT_cons, sizeT_nil, List.length_cons, List.length_nil, List.cons_append, List.nil_append]; omega
 rw [if_neg c]
 clear c
 by_cases c : k = 40
 · rw [if_pos c]; simp only [sizeT_app, sizeT_cons, sizeT_nil, List.length_cons, List.length_nil, List.cons_append, List.nil_append]; omega
 rw [if_neg c]
 clear c
 by_cases c : k = 41
 · rw [if_pos c]; simp only [sizeT_app, sizeT_cons, sizeT_nil, List.length_cons, List.length_nil, List.cons_append, List.nil_append]; omega
 rw [if_neg c]
 clear c
 by_cases c : k = 42
 · rw [if_pos c]; simp only [sizeT_app, sizeT_cons, sizeT_nil, List.length_cons, List.length_nil, List.cons_append, List.nil_append]; omega
 rw [if_neg c]
 clear c
 by_cases c : k = 43
 · rw [if_pos c]; simp only [sizeT_app, sizeT_cons, sizeT_nil, List.length_cons, List.length_nil, List.cons_append, List.nil_append]; omega
 rw [if_neg c]
 clear c
 by_cases c : k = 44
 · rw [if_pos c]; simp only [sizeT_app, sizeT_cons, sizeT_nil, List.length_cons, List.length_nil, List.cons_append, List.nil_append]; omega
 rw [if_neg c]
 clear c
 by_cases c : k = 45
 · rw [if_pos c]; simp only [sizeT_app, sizeT_cons, sizeT_nil, List.length_cons, List.length_nil, List.cons_append, List.nil_append]; omega
 rw [if_neg c]
 clear c
 by_cases c : k = 46
 · rw [if_pos c]; simp only [sizeT_app, sizeT_cons, sizeT_nil, List.length_cons, List.length_nil, List.cons_append, List.nil_append]; omega
 rw [if_neg c]
 clear c
 by_cases c : k = 47
 · rw [if_pos c]; simp only [sizeT_app, sizeT_cons, sizeT_nil, List.length_cons, List.length_nil, List.cons_append, List.nil_append]; omega
 rw [if_neg c]
 clear c
 simp only [sizeT_app, sizeT_cons, sizeT_nil, List.length_cons, List.length_nil, List.cons_append, List.nil_append]; omega
theorem tx_le (k : Int) (t : ByteArray) (h : txB k t = true) : (L t).length ≤ 1000 := by
 unfold txB at h
 by_cases c : nameKinds.contains k = true
 · rw [if_pos c] at h
   unfold freeB nameB at h
   simp only [Bool.and_eq_true, decide_eq_true_eq] at h
   omega
 · rw [if_neg c] at h
   by_cases c8 : k = 8
   · rw [if_pos c8, Bool.or_eq_true] at h
     rcases h with h | h
     · have : t.size = 0 := by simpa using h
       rw [L_len, this]; omega
     · have : L t = sgnL := by simpa using h
       rw [this]; decide
   · rw [if_neg c8] at h
     by_cases c36 : k = 36
     · rw [if_pos c36] at h
       by_cases hl : 1000 < (L t).length
       · unfold Nb.nbL at h; rw [if_pos hl] at h; cases h
       · omega
     · rw [if_neg c36] at h
       have key : ∀ ls : List (List UInt8), (∀ m ∈ ls, m.length ≤ 1000) → ls.contains (L t) = true → (L t).length ≤ 1000 := fun ls h1 h2 => h1 _ (List.contains_iff_mem.1 h2)
       by_cases c45 : k = 45
       · rw [if_pos c45] at h; exact key unL (by decide) h
       · rw [if_neg c45] at h
         by_cases c46 : k = 46
         · rw [if_pos c46] at h; exact key binL (by decide) h
         · rw [if_neg c46] at h
           have : t.size = 0 := by simpa using h
           rw [L_len, this]; omega
theorem fm_eq0 (n : Nd) : fm n = (txB n.kind n.text && kdB n.kind n.kids && fmL n.kids) := by obtain ⟨k, t, ks⟩ := n; exact fm_mk k t ks
theorem cnt_eq0 (n : Nd) : cnt n = 1 + cntL n.kids := by obtain ⟨k, t, ks⟩ := n; rw [cnt]; rfl
theorem sumT_le (ks : List Nd) (h : ∀ x ∈ ks, sizeT (tk x) + 2 ≤ 1100 * cnt x) : sumT (ks.map tk) ≤ 1100 * cntL ks := by
 induction ks with
 | nil => exact Nat.zero_le _
 | cons x xs ih =>
   rw [List.map_cons, sumT_cons, cntL]
   have h1 := h x (by simp)
   have h2 := ih (fun y hy => h y (by simp [hy]))
   omega
theorem d1_le (x : List Tok) : sizeT (x.drop 1) ≤ sizeT x := by cases x with | nil => exact Nat.le_refl _ | cons y ys => rw [List.drop_one, List.tail_cons, sizeT_cons]; omega
theorem sep_drop (T : List (List Tok)) : sizeT (sepL [44] (T.map (·.drop 1))) ≤ sizeT (sepL [44] T) := by
 cases T with
 | nil => exact Nat.le_refl _
 | cons x xs =>
   rw [List.map_cons, sepL, sepL, sizeT_app, sizeT_app]
   have h1 := d1_le x
   have h2 : ∀ ys : List (List Tok), sizeT ((ys.map (·.drop 1)).flatMap fun y => ([44] : Tok) :: y) ≤ sizeT (ys.flatMap fun y => ([44] : Tok) :: y) := by
     intro ys
     induction ys with
     | nil => exact Nat.le_refl _
     | cons y ys ih =>
       rw [List.map_cons, List.flatMap_cons, List.flatMap_cons, sizeT_app, sizeT_app, sizeT_cons, sizeT_cons]
       have := d1_le y
       omega
   have := h2 xs
   omega
theorem drop1_le (T : List (List Tok)) : sumT (T.map (·.drop 1)) ≤ sumT T := by
 induction T with
 | nil => exact Nat.le_refl _
 | cons x xs ih =>
   rw [List.map_cons, sumT_cons, sumT_cons]
   have : sizeT (x.drop 1) ≤ sizeT x := by cases x with | nil => exact Nat.le_refl _ | cons y ys => rw [List.drop_one, List.tail_cons, sizeT_cons]; omega
   omega
end Go.Proofs.YtddlokkejglckaaGreatDoor.Nt
namespace Go.Proofs.YtddlokkejglckaaGreatDoor
open Nt
theorem size_le : ∀ n : Nd, fm n = true → sizeT (tk n) + 2 ≤ 1100 * cnt n := by
 refine Nd.ind fun n ih => ?_
 intro hf
 rw [fm_eq0] at hf
 simp only [Bool.and_eq_true] at hf
 obtain ⟨⟨hT, hK⟩, hL⟩ := hf
 have hkf : ∀ x ∈ n.kids, fm x = true := by rw [fmL_all, List.all_eq_true] at hL; exact hL
 have h1 := tx_le _ _ hT
 have h2 := sumT_le n.kids (fun x hx => ih x hx (hkf x hx))
 rw [cnt_eq0]
 by_cases h : n.kind = 19
 · rw [h] at hK
   have hK2 : (fitK n.kids [2 ^ 8, 2 ^ 5, expK] && allK (2 ^ 6) ((n.kids.drop 1).headD (.mk 0 ⟨#[]⟩ [])).kids) = true := hK
   rw [Bool.and_eq_true] at hK2
   match hks : n.kids with
   | [] => rw [hks] at hK2; cases hK2.1
   | [x] => rw [hks] at hK2; simp [fitK] at hK2
   | [x, y] => rw [hks] at hK2; simp [fitK] at hK2
   | x :: y :: z :: u :: r => rw [hks] at hK2; simp [fitK] at hK2
   | [x, y, z] =>
     have hy : hasB (2 ^ 5) y.kind = true := by have := hK2.1; rw [hks] at this; simp [fitK] at this; exact this.2.1
     have y5 : y.kind = 5 := by
       unfold hasB at hy
       simp only [Bool.and_eq_true, decide_eq_true_eq, Nat.testBit_two_pow] at hy
       omega
     have ey : sizeT (tk y) = sizeT (sepL [44] (y.kids.map tk)) + 4 := by
       rw [tk_eq, y5]
       have : pieces 5 (L y.text) (y.kids.map tk) (y.kids.map fun x => x.kids.map tk) = [[40]] ++ sepL [44] (y.kids.map tk) ++ [[41]] := by simp [pieces]
       rw [this, sizeT_app, sizeT_app]; simp [sizeT_cons, sizeT_nil]; omega
     have h3 := sep_drop (y.kids.map tk)
     have h4 := ih x (by rw [hks]; simp) (hkf x (by rw [hks]; simp))
     have h5 := ih y (by rw [hks]; simp) (hkf y (by rw [hks]; simp))
     have h6 := ih z (by rw [hks]; simp) (hkf z (by rw [hks]; simp))
     have e : tk n = [tFunc] ++ tk x ++ [L n.text, [40]] ++ sepL [44] ((y.kids.map tk).map (·.drop 1)) ++ [[41], [61]] ++ tk z ++ [[59]] := by
       rw [tk_eq, h, hks]; simp [pieces, kid]
     rw [e]
     simp only [sizeT_app, sizeT_cons, sizeT_nil, List.length_cons, List.length_nil, cntL]
     omega
 · have h3 := pieces_le n.kind (L n.text) (n.kids.map tk) (n.kids.map fun x => x.kids.map tk) h
   rw [tk_eq]
   omega
end Go.Proofs.YtddlokkejglckaaGreatDoor
namespace Go.Proofs.YtddlokkejglckaaGreatDoor
open Go.RowKit Nt
set_option linter.unusedVariables false
set_option maxRecDepth 100000
def tv (t : Tok) : Value := .string (S t)
theorem info9 : (Tryz.prog.info? 9).map (fun i => (i.zero, i.size, i.bytes)) = some (some (.string ByteArray.empty), 1, 16) := by kernel_rfl
structure Pi (pb : Nat) (T : List Tok) (v : Value) (W : World) : Prop where
 row : W.ownsRow (pb + 1) 9 1 v T.length (T.map tv)
 c0 : W.cell? ⟨pb, 0, none⟩ = some v
 f0 : W.frozen? ⟨pb, 0, none⟩ = false
theorem Pi.alloc {pb : Nat} {T : List Tok} {v : Value} {W : World} (h : Pi pb T v W) (o : Obj) : Pi pb T v (W.alloc o) :=
 ⟨World.ownsRow.alloc h.row o, c_ (bal (brf W) o) h.c0, frozen_later (bal (brf W) o) h.c0 h.f0⟩
theorem Pi.drew {pb : Nat} {T : List Tok} {v : Value} {W : World} (h : Pi pb T v W) : Pi pb T v W.drew := ⟨h.row, h.c0, h.f0⟩
theorem Pi.lt {pb : Nat} {T : List Tok} {v : Value} {W : World} (h : Pi pb T v W) : pb < W.heap.size := World.block_lt_of_cell? W _ h.c0
theorem Pi.own {pb : Nat} {T : List Tok} {v : Value} {W : World} (h : Pi pb T v W) : ∀ k, v.ownBlock = some k → pb + 1 ≤ k := fun k hk => (World.ownsRow.lt h.row k hk).1
theorem Pi.new {pb : Nat} {T : List Tok} {v : Value} {W : World} (h : Pi pb T v W) : v.ownBlock ≠ some W.heap.size := fun e => by have := (World.ownsRow.lt h.row _ e).2; omega
theorem Pi.ne {pb : Nat} {T : List Tok} {v : Value} {W : World} (h : Pi pb T v W) : some pb ≠ v.ownBlock := fun e => by have := h.own pb e.symm; omega
theorem Pi.below {pb : Nat} {T : List Tok} {v v' : Value} {W W' : World} (h : Pi pb T v W) (k : Pr pb v v' W W') : Below pb W W' :=
 k.below (Nat.le_refl _) (fun j hj => by have := h.own j hj; omega) (Nat.le_of_lt h.lt)
theorem Pi.slice {pb : Nat} {T : List Tok} {v : Value} {W : World} (h : Pi pb T v W) : ∃ a c, v = .slice a T.length c := by
 rcases h.row.2 with ⟨rfl, hn⟩ | ⟨g, cap, cur, rfl, _⟩
 · exact ⟨none, 0, by rw [hn]⟩
 · exact ⟨_, _, rfl⟩
theorem row_slice {B n : Nat} {v : Value} {xs : List Value} {W : World} (h : W.ownsRow B 9 1 v n xs) : ∃ a m c, v = .slice a m c := by
 rcases h.2 with ⟨rfl, hn⟩ | ⟨g, cap, cur, rfl, _⟩
 · exact ⟨none, 0, 0, rfl⟩
 · exact ⟨_, _, _, rfl⟩
theorem listTs {ops : Array Oper} {rest : List Oper} {o : Oper} {a : Act} {w : World} {Q : Exit → Act → World → Prop} (hgd : o.guard = none) (s x : Operand)
   (ho : o.op = .call { callee := .builtin .append, args := #[s, x], argTypes := #[43, 43] }) {Z : Nat} {v : Value} {T : List Tok} (hs : a.eval s = v) (hown : w.ownsRow Z 9 1 v T.length (T.map tv)) (M c : Nat) (ts : List Tok)
   (hx : a.eval x = .slice (some ⟨M, 0, none⟩) ts.length c) (hc : ∀ j t, ts[j]? = some t → w.cell? ⟨M, j, none⟩ = some (tv t)) (h63 : T.length + ts.length ≤ 4398046511104) (hZ : Z ≤ w.heap.size)
   (h : ∀ v' w', w'.ownsRow Z 9 1 v' (T ++ ts).length ((T ++ ts).map tv) → w.grownBy w' v.ownBlock → (v'.ownBlock = v.ownBlock ∨ ∃ k, v'.ownBlock = some k ∧ w.heap.size ≤ k) → wpList Tryz.prog ops Q rest (a.put o.dst v') w') :
   wpList Tryz.prog ops Q (o :: rest) a w := by
 obtain ⟨i0, hi, hz0, hz1, hz2⟩ := info_parts info9
 refine wpList_plain hgd fun _ hK => wp_own_src w s x 43 43 ho Z 9 i0 (.string ByteArray.empty) 1 16 Tryz.underlying43 hi hz0 hz1 hz2 rfl (by decide) v T.length (T.map tv) hs hown (.slice (some ⟨M, 0, none⟩) ts.length c) ts.length (ts.map tv) hx (Src.ofSlice w Tryz.underlying43 ⟨M, 0, none⟩ ts.length c (ts.map tv) (by simp) ?_ ?_) (by unfold maxLen; omega) (by omega) hZ ?_
 · intro j u hu
   rw [List.getElem?_map] at hu
   obtain ⟨t, ht, rfl⟩ := Option.map_eq_some_iff.1 hu
   rw [Addr.add_lit, Nat.zero_add]; exact hc j t ht
 · intro u hu; obtain ⟨t, _, rfl⟩ := List.mem_map.1 hu; rfl
 · intro v' w' hown' hgrow hk
   exact hK _ _ (h v' w' (by rw [List.length_append, List.map_append]; exact hown') hgrow hk)
set_option maxHeartbeats 400000 in
theorem iPut (pb : Nat) (T ts : List Tok) (ov : Value) (M c : Nat) (w : World) (hpi : Pi pb T ov w) (hts : ∀ j t, ts[j]? = some t → w.cell? ⟨M, j, none⟩ = some (tv t)) (hz : T.length + ts.length ≤ 1099511627776) :
   Calls Tryz.prog 39 #[.pointer (some ⟨pb, 0, none⟩), .slice (some ⟨M, 0, none⟩) ts.length c] w fun e w' => e = .returned (.pointer (some ⟨pb, 0, none⟩)) ∧ ∃ ov', Pi pb (T ++ ts) ov' w' ∧ Pr pb ov ov' w w' := by
 have c0 := hpi.c0
 have f0 := hpi.f0
 have HPI := h_ hpi
 have HTS := h_ hts
 have hlt := hpi.lt
 clear hpi hts
 go_enter Tryz.func39, Tryz.ntmps39
 go_wp2_with (at_builtin; refine listTs rfl _ _ rfl rfl (u_ HPI).row M c ts rfl (u_ HTS) (by omega) (by omega) ?_; intro v1 w1 hrow1 hgr1 hk1; have d0 := hgr1.cell c0 (u_ HPI).ne; have g0 := (World.frozen?_of_block (hgr1.block pb hlt (u_ HPI).ne)).trans f0; have HROW := h_ hrow1; have HPR := h_ (Pr.ofGrown (pb := pb) hgr1 hk1); clear hk1 hgr1; obtain ⟨a1, m1, n1, rfl⟩ := row_slice hrow1; clear hrow1 c0 f0)
 refine bodyPost_ret (v := .pointer (some ⟨pb, 0, none⟩)) (by simp [results, Tryz.results39, go_sem]) rfl ⟨rfl, _, ⟨ownsRow_setCell_below (u_ HROW) (by show pb < pb + 1; omega) _, st_same d0, by simpa using g0⟩, (u_ HPR).set 0 _⟩
def ndV (n : Nd) (v : Value) : Value := .agg #[.int .i64 n.kind, .string n.text, v]
def sm (l : List Nd) : Nat := (l.map sz).sum
theorem szL_sm (ks : List Nd) : szL ks = ks.length + sm ks := by
 induction ks with
 | nil => rw [szL]; rfl
 | cons x xs ih => rw [szL, ih, List.length_cons]; simp [sm]; omega
theorem sm_take {ks : List Nd} {i : Nat} {x : Nd} (h : ks[i]? = some x) : sm (ks.take (i + 1)) = sm (ks.take i) + sz x := by
 obtain ⟨hi, rfl⟩ := List.getElem?_eq_some_iff.1 h
 rw [List.take_succ_eq_append_getElem hi]
 unfold sm
 rw [List.map_append, List.sum_append]
 simp only [List.map_cons, List.map_nil, List.sum_cons, List.sum_nil, Nat.add_zero]
theorem sm_le {ks : List Nd} (i : Nat) : sm (ks.take i) ≤ sm ks := by
 have : sm ks = sm (ks.take i) + sm (ks.drop i) := by
   unfold sm
   rw [← List.sum_append, ← List.map_append, List.take_append_drop]
 omega
theorem sz_mk (n : Nd) : sz n = n.text.size + szL n.kids := by cases n; rw [sz]; rfl
def szR (s left : Nat) : Int := if s ≤ left then ((left - s : Nat) : Int) else -1
theorem szR_lt {s left : Nat} (h : left < s) : szR s left = -1 := if_neg (by omega)
theorem szR_le {s left : Nat} (h : s ≤ left) : szR s left = ((left - s : Nat) : Int) := if_pos h
def SzC (n : Nd) : Prop := ∀ (v : Value) (w : World) (left : Nat), left ≤ 1048576 → n.text.size ≤ maxLen → RdK w n.kids v →
 CB 4 #[ndV n v, .int .i64 left] w (.int .i64 (szR (sz n) left))
set_option maxRecDepth 100000 in
set_option maxHeartbeats 400000 in
theorem szS_of (ks : List Nd) (hP : ∀ x ∈ ks, SzC x) (v : Value) (w : World) (left : Nat) (hl : left ≤ 1048576) (hr : RdK w ks v) :
   CB 9 #[v, .int .i64 left] w (.int .i64 (szR (szL ks) left)) := by
 have hsm := szL_sm ks
 have HP := h_ hP
 have HR := h_ hr
 clear hP
 rcases RdK_cases hr with ⟨rfl, a, c, rfl⟩ | ⟨b, o, c, vs, rfl, hn, hcs⟩
 · have e0 : szR (szL []) left = (left : Int) := by rw [szL, szR_le (Nat.zero_le _)]; simp
   rw [e0]
   clear hsm hr HR HP e0
   go_enter Tryz.func9, Tryz.ntmps9
   go_wp2
   go_loop [1, 5] (fun l i => l = .int .i64 left ∧ i = .int .i64 0) (fun _ _ => 0)
   case atStart => exact ⟨rfl, rfl⟩
   case round =>
     obtain ⟨rfl, rfl⟩ := hrel
     go_wp2
     exact bodyPost_ret (v := .int .i64 (left : Nat)) (by simp [results, Tryz.results9, go_sem]) rfl ⟨rfl, brf _⟩
 · unfold maxLen at hn
   by_cases hbig : left < ks.length
   · rw [szR_lt (by omega)]
     have q : (left : Int) - (ks.length : Int) < 0 := by omega
     go_enter Tryz.func9, Tryz.ntmps9
     go_wp2
     exact bodyPost_ret (v := .int .i64 (-1)) (by simp [results, Tryz.results9, go_sem]) rfl ⟨rfl, brf _⟩
   · have HC := h_ hcs
     clear hcs hr HR
     go_enter Tryz.func9, Tryz.ntmps9
     go_wp2
     go_loopw [1, 5] (fun l i wr => ∃ (j m : Nat), j ≤ ks.length ∧ i = .int .i64 j ∧ l = .int .i64 m ∧ m + ks.length + sm (ks.take j) = left ∧ Below w.heap.size w wr) (fun l i wr => ks.length - (intOf i).toNat)
     case atStart => exact ⟨0, left - ks.length, Nat.zero_le _, rfl, by congr 1; omega, by simp [sm]; omega, brf _⟩
     case round =>
       obtain ⟨j, m, hj, rfl, rfl, hm, hb⟩ := hrel
       by_cases hjn : j < ks.length
       · have hx : ks[j]? = some ks[j] := List.getElem?_eq_getElem hjn
         generalize ks[j] = x at hx
         obtain ⟨k1, k2, k3, hts, hk⟩ := u_ HC j x hx
         have k1' := c_ hb k1
         have k2' := c_ hb k2
         have k3' := c_ hb k3
         have PX := h_ (u_ HP x (List.mem_of_getElem? hx) (vs j) wr m (by omega) hts (RdK_later hb hk))
         unfold ndV at PX
         have st := sm_take hx
         have sl := sm_le (ks := ks) (j + 1)
         have HB := h_ hb
         clear hb k1 k2 k3 hk
         by_cases hfit : sz x ≤ m
         · rw [szR_le hfit] at PX
           have q1 : ¬ (((m - sz x : Nat) : Int) < 0) := by omega
           generalize x.kind = xk at *
           generalize x.text = xt at *
           generalize vs j = xv at *
           generalize hd : m - sz x = d at *
           go_wp2_with (go_at_call 4; refine (u_ PX).mono ?_; rintro e v1 ⟨rfl, hb1⟩)
           exact ⟨⟨j + 1, d, by omega, by go_num, rfl, by omega, below_step (u_ HB) hb1⟩, by simp [intOf]; omega⟩
         · rw [szR_lt (by omega)] at PX
           have HF : Hid (szR (szL ks) left = -1) := h_ (szR_lt (by omega))
           generalize x.kind = xk at *
           generalize x.text = xt at *
           generalize vs j = xv at *
           go_wp2_with (go_at_call 4; refine (u_ PX).mono ?_; rintro e v1 ⟨rfl, hb1⟩)
           exact bodyPost_ret (v := .int .i64 (-1)) (by simp [results, Tryz.results9, go_sem]) rfl ⟨by rw [u_ HF], below_step (u_ HB) hb1⟩
       · obtain rfl : j = ks.length := by omega
         rw [List.take_length] at hm
         have HF : Hid (szR (szL ks) left = (m : Int)) := h_ (by rw [szR_le (by omega)]; omega)
         have HB := h_ hb
         clear hb
         go_wp2
         exact bodyPost_ret (v := .int .i64 (m : Nat)) (by simp [results, Tryz.results9, go_sem]) rfl ⟨by rw [u_ HF], u_ HB⟩
set_option maxRecDepth 100000 in
theorem szN : ∀ n, SzC n := by
 refine Nd.ind fun n ih => ?_
 intro v w left hl ht hr
 have hsz := sz_mk n
 have SS := h_ (fun l hl w' hr' => szS_of n.kids ih v w' l hl hr')
 have HR := h_ hr
 obtain ⟨a, c, rfl⟩ := RdK_slice hr
 unfold maxLen at ht
 unfold ndV
 clear hr
 by_cases h1 : left < n.text.size
 · rw [szR_lt (by omega)]
   have q1 : (left : Int) - (n.text.size : Int) < 0 := by omega
   generalize n.kind = xk, n.text = xt at *
   go_enter Tryz.func4, Tryz.ntmps4
   go_wp2
   exact bodyPost_ret (v := .int .i64 (-1)) (by simp [results, Tryz.results4, go_sem]) rfl ⟨rfl, by repeat first | exact brf _ | refine bdr ?_ | refine bal ?_ _⟩
 · have q1 : ¬ ((left : Int) - (n.text.size : Int) < 0) := by omega
   have e1 : (left : Int) - (n.text.size : Int) = ((left - n.text.size : Nat) : Int) := by omega
   have SX := h_ (u_ SS (left - n.text.size) (by omega))
   clear SS ih
   by_cases h2 : szL n.kids ≤ left - n.text.size
   · have HF : Hid (szR (sz n) left = ((left - n.text.size - szL n.kids : Nat) : Int)) := h_ (by rw [szR_le (by omega)]; omega)
     rw [szR_le h2] at SX
     have q2 : ¬ (((left - n.text.size - szL n.kids : Nat) : Int) < 0) := by omega
     generalize n.kind = xk, n.text = xt at *
     generalize left - xt.size - szL n.kids = d at *
     go_enter Tryz.func4, Tryz.ntmps4
     go_wp2_with (go_at_call 9; refine (u_ SX _ (RdK_later (bal (brf w) _) (u_ HR))).mono ?_; rintro e v1 ⟨rfl, hb1⟩)
     exact bodyPost_ret (v := .int .i64 (d : Nat)) (by simp [results, Tryz.results4, go_sem]) rfl ⟨by rw [u_ HF], btr (bal (brf w) _) hb1⟩
   · have HF : Hid (szR (sz n) left = -1) := h_ (szR_lt (by omega))
     rw [szR_lt (by omega)] at SX
     generalize n.kind = xk, n.text = xt at *
     go_enter Tryz.func4, Tryz.ntmps4
     go_wp2_with (go_at_call 9; refine (u_ SX _ (RdK_later (bal (brf w) _) (u_ HR))).mono ?_; rintro e v1 ⟨rfl, hb1⟩)
     exact bodyPost_ret (v := .int .i64 (-1)) (by simp [results, Tryz.results4, go_sem]) rfl ⟨by rw [u_ HF], btr (bal (brf w) _) hb1⟩
set_option maxHeartbeats 800000
def joinT (s : Tok) (K : List (List Tok)) : List Tok := if s = [] then K.flatten else sepL s K
theorem joinT_snoc (s : Tok) (K : List (List Tok)) (y : List Tok) : joinT s (K ++ [y]) = joinT s K ++ ((if K ≠ [] ∧ s ≠ [] then [s] else []) ++ y) := by
 unfold joinT
 by_cases hs : s = []
 · simp [hs]
 · rw [if_neg hs, if_neg hs, sepL_snoc]
   by_cases hK : K = []
   · simp [hK, sepL]
   · simp [hK, hs]
theorem joinT_pre (s : Tok) (K R : List (List Tok)) : ∃ Q, joinT s (K ++ R) = joinT s K ++ Q := by
 refine snocInd (p := fun R => ∃ Q, joinT s (K ++ R) = joinT s K ++ Q) ⟨[], by simp⟩ ?_ R
 rintro R y ⟨Q, hQ⟩
 rw [← List.append_assoc, joinT_snoc, hQ, List.append_assoc]
 exact ⟨_, rfl⟩
theorem joinT_take (s : Tok) (K : List (List Tok)) (j : Nat) : sizeT (joinT s (K.take j)) ≤ sizeT (joinT s K) := by
 obtain ⟨Q, hQ⟩ := joinT_pre s (K.take j) (K.drop j)
 rw [List.take_append_drop] at hQ
 rw [hQ, sizeT_app]; omega
theorem joinT_next (s : Tok) {ks : List Nd} {j : Nat} {x : Nd} (hx : ks[j]? = some x) : joinT s ((ks.take (j + 1)).map tk) = joinT s ((ks.take j).map tk) ++ ((if 0 < j ∧ s ≠ [] then [s] else []) ++ tk x) := by
 have hj : j < ks.length := (List.getElem?_eq_some_iff.1 hx).1
 have e : ks.take (j + 1) = ks.take j ++ [x] := by rw [List.take_add_one, hx]; rfl
 rw [e, List.map_append, List.map_singleton, joinT_snoc]
 have h2 : ((ks.take j).map tk ≠ []) ↔ 0 < j := by
   rw [Ne, ← List.length_eq_zero_iff, List.length_map, List.length_take]; omega
 simp only [h2]
def fmP (n : Nd) : Prop := fm n = true ∧ n.kind ≠ 1 ∧ n.kind ≠ 5 ∧ n.kind ≠ 24
def SpC (n : Nd) : Prop := ∀ (v : Value) (W0 w : World) (pb : Nat) (T : List Tok) (ov : Value), n.text.size ≤ maxLen → fmP n → RdK W0 n.kids v → Below W0.heap.size W0 w → W0.heap.size ≤ pb → Po pb T ov w → sizeT (T ++ tk n) ≤ 1099511627776 →
 Calls Tryz.prog 21 #[.pointer (some ⟨pb, 0, none⟩), ndV n v] w fun e w' => e = .returned (.tuple #[]) ∧ ∃ ov', Po pb (T ++ tk n) ov' w' ∧ Pr pb ov ov' w w'
theorem below_pr {W0 w w' : World} {pb : Nat} {T : List Tok} {v v' : Value} (hb : Below W0.heap.size W0 w) (hp : W0.heap.size ≤ pb) (hpo : Po pb T v w) (hpr : Pr pb v v' w w') : Below W0.heap.size W0 w' :=
 hb.trans ((hpo.below hpr).mono hp)
theorem len_okP {w : World} {ks : List Nd} {v : Value} (hr : RdK w ks v) : ks.length ≤ 9223372036854775807 := by
 rcases RdK_cases hr with ⟨h0, _⟩ | ⟨b, o, c, vs, hvv, hn, hcs⟩
 · rw [h0]; simp
 · unfold maxLen at hn; omega
theorem nodeP {x : Nd} (ih : SpC x) (v : Value) (W0 w : World) (pb : Nat) (T : List Tok) (ov : Value) (ht : x.text.size ≤ maxLen) (hf : fmP x) (hr : RdK W0 x.kids v) (hb : Below W0.heap.size W0 w) (hp : W0.heap.size ≤ pb) (hpo : Po pb T ov w) (hz : sizeT (T ++ tk x) ≤ 1099511627776) :
   Calls Tryz.prog 21 #[.pointer (some ⟨pb, 0, none⟩), .agg #[.int .i64 x.kind, .string x.text, v]] w fun e w' => e = .returned (.tuple #[]) ∧ ∃ ov', Po pb (T ++ tk x) ov' w' ∧ Pr pb ov ov' w w' := ih v W0 w pb T ov ht hf hr hb hp hpo hz
theorem sList (ks : List Nd) (ih : ∀ x ∈ ks, SpC x) (hf : ∀ x ∈ ks, fmP x) (s : ByteArray) (v : Value) (W0 w : World) (pb : Nat) (T : List Tok) (ov : Value) (hr : RdK W0 ks v) (hb : Below W0.heap.size W0 w) (hp : W0.heap.size ≤ pb) (hpo : Po pb T ov w) (hz : sizeT (T ++ joinT (L s) (ks.map tk)) ≤ 1099511627776) :
   Calls Tryz.prog 11 #[.pointer (some ⟨pb, 0, none⟩), v, .string s] w fun e w' => e = .returned (.tuple #[]) ∧ ∃ ov', Po pb (T ++ joinT (L s) (ks.map tk)) ov' w' ∧ Pr pb ov ov' w w' := by
 have HP := h_ ih
 have HF := h_ hf
 have HR := h_ hr
 have HPO := h_ hpo
 have HB := h_ hb
 have hl := len_okP hr
 obtain ⟨a0, c0, rfl⟩ := RdK_slice hr
 clear ih hf hr hpo hb
 go_enter Tryz.func11, Tryz.ntmps11
 go_wp2
 go_loopw [6] (fun i wr => ∃ (j : Nat) (ovj : Value), i = .int .i64 j ∧ j ≤ ks.length ∧ Po pb (T ++ joinT (L s) ((ks.take j).map tk)) ovj wr ∧ Pr pb ov ovj w wr) (fun i wr => ks.length - (intOf i).toNat)
 case atStart => exact ⟨0, ov, rfl, Nat.zero_le _, by have : joinT (L s) ((ks.take 0).map tk) = [] := by unfold joinT; split <;> rfl
                                                      rw [this, List.append_nil]; exact u_ HPO, Pr.refl _ _ _⟩
 case round =>
   obtain ⟨j, ovj, rfl, hj, hpoj, hprj⟩ := hrel
   have HPJ := h_ hpoj
   have HPRJ := h_ hprj
   by_cases hjn : j < ks.length
   · have hx : ks[j]? = some ks[j] := List.getElem?_eq_getElem hjn
     generalize ks[j] = x at hx
     have hnx := joinT_next (L s) hx
     have hbr := below_pr (u_ HB) hp (u_ HPO) hprj
     have hz2 : sizeT (T ++ joinT (L s) ((ks.take (j + 1)).map tk)) ≤ 1099511627776 := by
       have := joinT_take (L s) (ks.map tk) (j + 1)
       rw [← List.map_take] at this
       rw [sizeT_app] at hz ⊢
       omega
     rw [hnx, ← List.append_assoc] at hz2
     rcases RdK_cases (u_ HR) with ⟨h0, _⟩ | ⟨b, o, c', vs, hvv, hn, hcs⟩
     · rw [h0] at hjn; simp at hjn
     obtain ⟨k1, k2, k3, hts, hk⟩ := hcs j x hx
     obtain ⟨ha0, hc0⟩ : a0 = some ⟨b, o, none⟩ ∧ c0 = c' := by injection hvv with h1 h2 h3; exact ⟨h1, h3⟩
     subst ha0 hc0
     obtain ⟨a', c'', hv'⟩ := RdK_slice hk
     rw [hv'] at k3 hk
     have IHX := h_ (fun (wy : World) (Ty : List Tok) (ovy : Value) (hby : Below W0.heap.size W0 wy) (hpoy : Po pb Ty ovy wy) (hzy : sizeT (Ty ++ tk x) ≤ 1099511627776) => nodeP (u_ HP x (List.mem_of_getElem? hx)) _ W0 wy pb Ty ovy hts (u_ HF x (List.mem_of_getElem? hx)) hk hby hp hpoy hzy)
     have k1' := c_ hbr k1
     have k2' := c_ hbr k2
     have k3' := c_ hbr k3
     by_cases hc : 0 < j ∧ L s ≠ []
     · rw [if_pos hc] at hnx hz2
       have hz3 : sizeT ((T ++ joinT (L s) ((ks.take j).map tk)) ++ [L s]) ≤ 1099511627776 := by
         rw [← List.append_assoc, sizeT_app] at hz2; omega
       have HZ4 : Hid (sizeT ((T ++ joinT (L s) ((ks.take j).map tk)) ++ [L s] ++ tk x) ≤ 1099511627776) := h_ (by rw [← List.append_assoc] at hz2; exact hz2)
       have PU := h_ (sPut pb _ ovj s wr hpoj hz3)
       have q1 : (0 : Int) < (j : Int) := by omega
       have q2 : s.toList.isEmpty = false := by rw [toLL]; cases h : L s with | nil => exact absurd h hc.2 | cons => rfl
       have HBR := h_ hbr
       have HNX := h_ hnx
       have HZ2 := h_ hz2
       clear hpoj hprj hbr hnx hz2 hz3 hcs hvv hk
       generalize x.kind = yk at *
       generalize x.text = yt at *
       go_wp2_with (first
         | (go_at_call 20; refine (u_ PU).mono ?_; rintro e w1 ⟨rfl, ov1, hpo1, hpr1⟩; have hb1 := below_pr (u_ HBR) hp (u_ HPJ) hpr1; have j1 := c_ hb1 k1; have j2 := c_ hb1 k2; have j3 := c_ hb1 k3)
         | (go_at_call 21; refine (u_ IHX _ _ _ hb1 hpo1 (u_ HZ4)).mono ?_; rintro e w2 ⟨rfl, ov2, hpo2, hpr2⟩))
       refine ⟨⟨j + 1, ov2, by go_num, by omega, ?_, ((u_ HPRJ).trans hpr1).trans hpr2⟩, by simp [intOf]; omega⟩
       rw [u_ HNX]; simpa [List.append_assoc] using hpo2
     · rw [if_neg hc, List.nil_append] at hnx hz2
       have HBR := h_ hbr
       have HNX := h_ hnx
       have HZ2 := h_ hz2
       have q : (0 : Int) < (j : Int) → s.toList.isEmpty = true := fun h => by
         rw [toLL]
         cases h2 : L s with
         | nil => rfl
         | cons => exact absurd ⟨by omega, by rw [h2]; simp⟩ hc
       clear hpoj hprj hbr hnx hz2 hcs hvv hk hc
       generalize x.kind = yk at *
       generalize x.text = yt at *
       by_cases h0 : (0 : Int) < (j : Int)
       · have q2 := q h0
         clear q
         go_wp2_with (go_at_call 21; refine (u_ IHX _ _ _ (u_ HBR) (u_ HPJ) (u_ HZ2)).mono ?_; rintro e w2 ⟨rfl, ov2, hpo2, hpr2⟩)
         refine ⟨⟨j + 1, ov2, by go_num, by omega, ?_, (u_ HPRJ).trans hpr2⟩, by simp [intOf]; omega⟩
         rw [u_ HNX]; simpa [List.append_assoc] using hpo2
       · clear q
         go_wp2_with (go_at_call 21; refine (u_ IHX _ _ _ (u_ HBR) (u_ HPJ) (u_ HZ2)).mono ?_; rintro e w2 ⟨rfl, ov2, hpo2, hpr2⟩)
         refine ⟨⟨j + 1, ov2, by go_num, by omega, ?_, (u_ HPRJ).trans hpr2⟩, by simp [intOf]; omega⟩
         rw [u_ HNX]; simpa [List.append_assoc] using hpo2
   · obtain rfl : j = ks.length := by omega
     rw [List.take_length] at HPJ
     clear hpoj hprj
     go_wp2
     exact e11 rfl ⟨rfl, ovj, u_ HPJ, u_ HPRJ⟩
theorem sAround (ks : List Nd) (ih : ∀ x ∈ ks, SpC x) (hf : ∀ x ∈ ks, fmP x) (op s en : ByteArray) (v : Value) (W0 w : World) (pb : Nat) (T : List Tok) (ov : Value) (hr : RdK W0 ks v) (hb : Below W0.heap.size W0 w) (hp : W0.heap.size ≤ pb) (hpo : Po pb T ov w) (hz : sizeT (T ++ ([L op] ++ joinT (L s) (ks.map tk) ++ [L en])) ≤ 1099511627776) :
   Calls Tryz.prog 34 #[.pointer (some ⟨pb, 0, none⟩), .string op, v, .string s, .string en] w fun e w' => e = .returned (.tuple #[]) ∧ ∃ ov', Po pb (T ++ ([L op] ++ joinT (L s) (ks.map tk) ++ [L en])) ov' w' ∧ Pr pb ov ov' w w' := by
 have z1 : sizeT (T ++ [L op]) ≤ 1099511627776 := by rw [sizeT_app] at hz ⊢; rw [sizeT_app, sizeT_app] at hz; omega
 have z2 : sizeT (T ++ [L op] ++ joinT (L s) (ks.map tk)) ≤ 1099511627776 := by rw [sizeT_app, sizeT_app]; rw [sizeT_app, sizeT_app, sizeT_app] at hz; omega
 have z3 : sizeT (T ++ [L op] ++ joinT (L s) (ks.map tk) ++ [L en]) ≤ 1099511627776 := by rw [sizeT_app, sizeT_app, sizeT_app]; rw [sizeT_app, sizeT_app, sizeT_app] at hz; omega
 have P1 := h_ (sPut pb T ov op w hpo z1)
 have LS := h_ (fun (wy : World) (ovy : Value) (hby : Below W0.heap.size W0 wy) (hpoy : Po pb (T ++ [L op]) ovy wy) => sList ks ih hf s v W0 wy pb _ ovy hr hby hp hpoy z2)
 have P2 := h_ (fun (wy : World) (ovy : Value) (hpoy : Po pb (T ++ [L op] ++ joinT (L s) (ks.map tk)) ovy wy) => sPut pb _ ovy en wy hpoy z3)
 have HPO := h_ hpo
 have HB := h_ hb
 obtain ⟨a0, c0, rfl⟩ := RdK_slice hr
 clear ih hf hr hpo hb z1 z2 z3 hz
 go_enter Tryz.func34, Tryz.ntmps34
 go_wp2_with (first
   | (go_at_call 20; refine (u_ P2 _ _ hpo2).mono ?_; rintro e w3 ⟨rfl, ov3, hpo3, hpr3⟩)
   | (go_at_call 20; refine (u_ P1).mono ?_; rintro e w1 ⟨rfl, ov1, hpo1, hpr1⟩; have hb1 := below_pr (u_ HB) hp (u_ HPO) hpr1)
   | (go_at_call 11; refine (u_ LS _ _ hb1 hpo1).mono ?_; rintro e w2 ⟨rfl, ov2, hpo2, hpr2⟩))
 exact e34 rfl ⟨rfl, ov3, by simpa [List.append_assoc] using hpo3, (hpr1.trans hpr2).trans hpr3⟩
structure Stt (W0 : World) (pb kN : Nat) (n : Nd) (nv : Value) (w0 : World) (ov0 : Value) (T : List Tok) (ov : Value) (W : World) : Prop where
 b : Below W0.heap.size W0 W
 po : Po pb T ov W
 c0 : W.cell? ⟨kN, 0, none⟩ = some (.int .i64 n.kind)
 c1 : W.cell? ⟨kN, 1, none⟩ = some (.string n.text)
 c2 : W.cell? ⟨kN, 2, none⟩ = some nv
 ne : kN ≠ pb
 ap : ov.ownBlock ≠ some kN
 pr : Pr pb ov0 ov w0 W
theorem Stt.alloc {W0 : World} {pb kN : Nat} {n : Nd} {nv : Value} {w0 : World} {ov0 : Value} {T : List Tok} {ov : Value} {W : World} (h : Stt W0 pb kN n nv w0 ov0 T ov W) (o : Obj) : Stt W0 pb kN n nv w0 ov0 T ov (W.alloc o) :=
 ⟨h.b.alloc h.b.size o, h.po.alloc o, c_ (bal (brf W) o) h.c0, c_ (bal (brf W) o) h.c1, c_ (bal (brf W) o) h.c2, h.ne, h.ap, h.pr.alloc o⟩
theorem Stt.next {W0 : World} {pb kN : Nat} {n : Nd} {nv : Value} {w0 : World} {ov0 : Value} {T T' : List Tok} {ov ov' : Value} {W W' : World} (hp : W0.heap.size ≤ pb) (h : Stt W0 pb kN n nv w0 ov0 T ov W) (hpo : Po pb T' ov' W') (hpr : Pr pb ov ov' W W') : Stt W0 pb kN n nv w0 ov0 T' ov' W' :=
 ⟨below_pr h.b hp h.po hpr, hpo, hpr.cell h.c0 h.ne h.ap, hpr.cell h.c1 h.ne h.ap, hpr.cell h.c2 h.ne h.ap, h.ne, hpr.apart (World.block_lt_of_cell? W _ h.c0) h.ap, h.pr.trans hpr⟩
theorem Stt.start {W0 : World} {pb : Nat} {n : Nd} {nv : Value} {T : List Tok} {ov : Value} {w : World} (hb : Below W0.heap.size W0 w) (hpo : Po pb T ov w) (t : TypeId) : Stt W0 pb w.heap.size n nv w ov T ov (w.alloc (.cells #[.int .i64 n.kind, .string n.text, nv] t)) :=
 ⟨hb.alloc hb.size _, hpo.alloc _, by rw [World.cell?_alloc_new]; rfl, by rw [World.cell?_alloc_new]; rfl, by rw [World.cell?_alloc_new]; rfl, by have := hpo.lt; omega, hpo.new, Pr.ofAlloc pb ov w _⟩
theorem stt_call {W0 : World} {pb kN : Nat} {n : Nd} {nv : Value} {w0 : World} {ov0 : Value} {S S' : List Tok} {f : FuncId} {args : Array Value} (hp : W0.heap.size ≤ pb)
   (hc : ∀ W ov, Po pb S ov W → Below W0.heap.size W0 W → Calls Tryz.prog f args W fun e w' => e = .returned (.tuple #[]) ∧ ∃ ov', Po pb S' ov' w' ∧ Pr pb ov ov' W w') (W : World) (ov : Value) (h : Stt W0 pb kN n nv w0 ov0 S ov W) :
   Calls Tryz.prog f args W fun e w' => e = .returned (.tuple #[]) ∧ ∃ ov', Stt W0 pb kN n nv w0 ov0 S' ov' w' :=
 (hc W ov h.po h.b).mono fun e w' ⟨he, ov', hpo, hpr⟩ => ⟨he, ov', h.next hp hpo hpr⟩
theorem stt_put {W0 : World} {pb kN : Nat} {n : Nd} {nv : Value} {w0 : World} {ov0 : Value} {S : List Tok} (hp : W0.heap.size ≤ pb) (s : ByteArray) (t : Tok) (ht : L s = t) (hz : sizeT (S ++ [t]) ≤ 1099511627776) (W : World) (ov : Value) (h : Stt W0 pb kN n nv w0 ov0 S ov W) :
   Calls Tryz.prog 20 #[.pointer (some ⟨pb, 0, none⟩), .string s] W fun e w' => e = .returned (.tuple #[]) ∧ ∃ ov', Stt W0 pb kN n nv w0 ov0 (S ++ [t]) ov' w' := by
 subst ht
 exact stt_call hp (fun W ov hpo _ => sPut pb S ov s W hpo hz) W ov h
theorem stt_node {W0 : World} {pb kN : Nat} {n : Nd} {nv : Value} {w0 : World} {ov0 : Value} {S : List Tok} (hp : W0.heap.size ≤ pb) {x : Nd} (ih : SpC x) (hf : fmP x) (ht : x.text.size ≤ maxLen) {v : Value} (hr : RdK W0 x.kids v) (hz : sizeT (S ++ tk x) ≤ 1099511627776) (W : World) (ov : Value) (h : Stt W0 pb kN n nv w0 ov0 S ov W) :
   Calls Tryz.prog 21 #[.pointer (some ⟨pb, 0, none⟩), .agg #[.int .i64 x.kind, .string x.text, v]] W fun e w' => e = .returned (.tuple #[]) ∧ ∃ ov', Stt W0 pb kN n nv w0 ov0 (S ++ tk x) ov' w' :=
 stt_call hp (fun W ov hpo hb => nodeP ih v W0 W pb S ov ht hf hr hb hp hpo hz) W ov h
theorem stt_around {W0 : World} {pb kN : Nat} {n : Nd} {nv : Value} {w0 : World} {ov0 : Value} {S : List Tok} (hp : W0.heap.size ≤ pb) {ks : List Nd} (ih : ∀ x ∈ ks, SpC x) (hf : ∀ x ∈ ks, fmP x) (op s en : ByteArray) (to ts te : Tok) (h1 : L op = to) (h2 : L s = ts) (h3 : L en = te) {v : Value} (hr : RdK W0 ks v) (hz : sizeT (S ++ ([to] ++ joinT ts (ks.map tk) ++ [te])) ≤ 1099511627776) (W : World) (ov : Value) (h : Stt W0 pb kN n nv w0 ov0 S ov W) :
   Calls Tryz.prog 34 #[.pointer (some ⟨pb, 0, none⟩), .string op, v, .string s, .string en] W fun e w' => e = .returned (.tuple #[]) ∧ ∃ ov', Stt W0 pb kN n nv w0 ov0 (S ++ ([to] ++ joinT ts (ks.map tk) ++ [te])) ov' w' := by
 subst h1 h2 h3
 exact stt_call hp (fun W ov hpo hb => sAround ks ih hf op s en v W0 W pb S ov hr hb hp hpo hz) W ov h
theorem stt_list {W0 : World} {pb kN : Nat} {n : Nd} {nv : Value} {w0 : World} {ov0 : Value} {S : List Tok} (hp : W0.heap.size ≤ pb) {ks : List Nd} (ih : ∀ x ∈ ks, SpC x) (hf : ∀ x ∈ ks, fmP x) (s : ByteArray) (ts : Tok) (h2 : L s = ts) {v : Value} (hr : RdK W0 ks v) (hz : sizeT (S ++ joinT ts (ks.map tk)) ≤ 1099511627776) (W : World) (ov : Value) (h : Stt W0 pb kN n nv w0 ov0 S ov W) :
   Calls Tryz.prog 11 #[.pointer (some ⟨pb, 0, none⟩), v, .string s] W fun e w' => e = .returned (.tuple #[]) ∧ ∃ ov', Stt W0 pb kN n nv w0 ov0 (S ++ joinT ts (ks.map tk)) ov' w' := by
 subst h2
 exact stt_call hp (fun W ov hpo hb => sList ks ih hf s v W0 W pb S ov hr hb hp hpo hz) W ov h
def SC (W0 : World) (pb : Nat) (n : Nd) (nv : Value) (w : World) (ov : Value) (f : FuncId) (x : List Value) (A B : List Tok) : Prop :=
 ∀ W ov', Stt W0 pb w.heap.size n nv w ov A ov' W → Calls Tryz.prog f (Value.pointer (some ⟨pb, 0, none⟩) :: x).toArray W fun e w' => e = .returned (.tuple #[]) ∧ ∃ ov'', Stt W0 pb w.heap.size n nv w ov B ov'' w'
def ST (F : FuncId) (n : Nd) (E : List Tok → List Tok) : Prop := ∀ (v : Value) (W0 w : World) (pb : Nat) (T : List Tok) (ov : Value), n.text.size ≤ maxLen → RdK W0 n.kids v → Below W0.heap.size W0 w → W0.heap.size ≤ pb → Po pb T ov w → sizeT (E T) ≤ 1099511627776 →
 Calls Tryz.prog F #[.pointer (some ⟨pb, 0, none⟩), ndV n v] w fun e w' => e = .returned (.tuple #[]) ∧ ∃ ov', Po pb (E T) ov' w' ∧ Pr pb ov ov' w w'
theorem RdK_take {W : World} {ks : List Nd} {b o c : Nat} (hr : RdK W ks (.slice (some ⟨b, o, none⟩) ks.length c)) (m : Nat) (hm : m ≤ ks.length) (c' : Nat) (hc' : m ≤ c') : RdK W (ks.take m) (.slice (some ⟨b, o, none⟩) m c') := by
 rcases RdK_cases hr with ⟨h0, a, c2, hv⟩ | ⟨b2, o2, c2, vs, hv, hn, hcs⟩
 · rw [h0] at hm ⊢
   have : m = 0 := by simpa using hm
   subst this
   exact .nil _ _
 · injection hv with h1 h2 h3
   injection h1 with h1
   injection h1 with h4 h5
   subst h4 h5
   have hl : (ks.take m).length = m := by rw [List.length_take]; omega
   have hr2 : RdB W 0 (ks.take m) (.slice (some ⟨b, o, none⟩) (ks.take m).length c') := .row b o c' (ks.take m) vs (Nat.zero_le _) (by rw [hl]; omega) (by rw [hl]; exact hc')
     (fun i x hx => by
       have hi : i < m := by have := (List.getElem?_eq_some_iff.1 hx).1; omega
       rw [List.getElem?_take_of_lt hi] at hx
       obtain ⟨p1, p2, p3, p4, _⟩ := hcs i x hx
       exact ⟨p1, p2, p3, p4⟩)
     (fun i x hx => by
       have hi : i < m := by have := (List.getElem?_eq_some_iff.1 hx).1; omega
       rw [List.getElem?_take_of_lt hi] at hx
       exact (hcs i x hx).2.2.2.2)
   rw [hl] at hr2
   exact hr2
theorem RdK_drop {W : World} {ks : List Nd} {b o c : Nat} (hr : RdK W ks (.slice (some ⟨b, o, none⟩) ks.length c)) (m : Nat) (hm : m ≤ ks.length) (c' : Nat) (hc' : ks.length - m ≤ c') : RdK W (ks.drop m) (.slice (some ⟨b, o + m * 3, none⟩) (ks.length - m) c') := by
 rcases RdK_cases hr with ⟨h0, a, c2, hv⟩ | ⟨b2, o2, c2, vs, hv, hn, hcs⟩
 · rw [h0]
   simp only [List.drop_nil, List.length_nil, Nat.zero_sub]
   exact .nil _ _
 · injection hv with h1 h2 h3
   injection h1 with h1
   injection h1 with h4 h5
   subst h4 h5
   have hl : (ks.drop m).length = ks.length - m := by rw [List.length_drop]
   have hr2 : RdB W 0 (ks.drop m) (.slice (some ⟨b, o + m * 3, none⟩) (ks.drop m).length c') := .row b (o + m * 3) c' (ks.drop m) (fun i => vs (m + i)) (Nat.zero_le _) (by rw [hl]; omega) (by rw [hl]; exact hc')
     (fun i x hx => by
       rw [List.getElem?_drop] at hx
       obtain ⟨p1, p2, p3, p4, _⟩ := hcs (m + i) x hx
       have e : o + m * 3 + i * 3 = o + (m + i) * 3 := by rw [Nat.add_mul]; omega
       rw [e]
       exact ⟨p1, p2, p3, p4⟩)
     (fun i x hx => by
       rw [List.getElem?_drop] at hx
       exact (hcs (m + i) x hx).2.2.2.2)
   rw [hl] at hr2
   exact hr2
theorem RdK_some {W : World} {ks : List Nd} {v : Value} (hr : RdK W ks v) (hne : ks ≠ []) : ∃ b o c, v = .slice (some ⟨b, o, none⟩) ks.length c ∧ ks.length ≤ maxLen := by
 rcases RdK_cases hr with ⟨h0, _⟩ | ⟨b, o, c, vs, hv, hn, hcs⟩
 · exact absurd h0 hne
 · exact ⟨b, o, c, hv, hn⟩
end Go.Proofs.YtddlokkejglckaaGreatDoor
