/- Parts of the proof: TK0 to PS1. -/
import Derived.Test.YtddlokkejglckaaGreatDoorMBits
import Derived.Deep.Strs
import Derived.Test.YtddlokkejglckaaGreatDoorPA0
import Derived.Deep.RegionHeld3
namespace Nb
def letB (c : UInt8) : Bool := (decide (97 ≤ c) && decide (c ≤ 122)) || (decide (65 ≤ c) && decide (c ≤ 90)) || c == 95
def nmB (c : UInt8) : Bool := letB c || digB c
def nameL : List UInt8 → Nat
 | [] => 0
 | c :: t => if letB c = true then 1 + (t.takeWhile nmB).length else 0
theorem nameL_cons (c : UInt8) (t : List UInt8) : nameL (c :: t) = if letB c = true then 1 + (t.takeWhile nmB).length else 0 := rfl
theorem nameL_pos {c : UInt8} {t : List UInt8} : 0 < nameL (c :: t) ↔ letB c = true := by
 rw [nameL_cons]
 by_cases h : letB c = true
 · rw [if_pos h]; exact ⟨fun _ => h, fun _ => by omega⟩
 · rw [if_neg h]; exact ⟨fun h' => by omega, fun h' => absurd h' h⟩
theorem nameL_le (l : List UInt8) : nameL l ≤ l.length := by
 cases l with
 | nil => exact Nat.le_refl _
 | cons c t =>
   rw [nameL_cons]
   have := takeWhile_le nmB t
   rw [List.length_cons]
   split <;> omega
theorem nameL_run {l : List UInt8} {a : Nat} (h : a < l.length) (hc : letB l[a] = true) : a + nameL (l.drop a) = runE nmB l (a + 1) := by
 rw [List.drop_eq_getElem_cons h, nameL_cons]
 unfold runE
 rw [if_pos hc]; omega
theorem nameL_none {l : List UInt8} {a : Nat} (h : a < l.length) (hc : letB l[a] = false) : nameL (l.drop a) = 0 := by
 rw [List.drop_eq_getElem_cons h, nameL_cons, if_neg (by rw [hc]; decide)]
def marksL : List (List UInt8) := [[61, 61, 61], [62, 62, 62], [60, 61], [62, 61], [61, 61], [33, 61], [60, 60], [62, 62], [38, 38], [124, 124], [46, 46], [43], [45], [42], [47], [37], [38], [124], [94], [126], [33], [60], [62], [61], [63], [58], [59], [44], [46], [40], [41], [91], [93], [123], [125], [35]]
def markL (l : List UInt8) : Option (List UInt8) := marksL.find? (·.isPrefixOf l)
theorem marksL_pos : marksL.all (fun m => decide (0 < m.length) && decide (m.length ≤ 3)) = true := by decide
theorem markL_some {l m : List UInt8} (h : markL l = some m) : m ∈ marksL ∧ m.isPrefixOf l = true := ⟨List.mem_of_find?_eq_some h, List.find?_some (p := fun m : List UInt8 => m.isPrefixOf l) h⟩
theorem markL_len {l m : List UInt8} (h : markL l = some m) : 0 < m.length ∧ m.length ≤ l.length ∧ l.take m.length = m := by
 obtain ⟨h1, h2⟩ := markL_some h
 have h3 := List.all_eq_true.1 marksL_pos m h1
 rw [Bool.and_eq_true, decide_eq_true_eq] at h3
 have h4 := List.isPrefixOf_iff_prefix.1 h2
 exact ⟨h3.1, h4.length_le, (List.prefix_iff_eq_take.1 h4).symm⟩
theorem marksL_dig : marksL.all (fun m => !(digB (m.getD 0 0))) = true := by decide
theorem markL_dig {c : UInt8} {t : List UInt8} (h : digB c = true) : markL (c :: t) = none := by
 unfold markL
 rw [List.find?_eq_none]
 intro m hm hp
 have h1 := List.all_eq_true.1 marksL_dig m hm
 have h2 := List.all_eq_true.1 marksL_pos m hm
 rw [Bool.and_eq_true, decide_eq_true_eq] at h2
 cases m with
 | nil => simp at h2
 | cons d m' =>
   have h4 := List.isPrefixOf_iff_prefix.1 hp
   obtain ⟨r, hr⟩ := h4
   rw [List.cons_append] at hr
   have : d = c := by injection hr
   subst this
   simp [h] at h1
def tokL (l : List UInt8) : Nat × Nat × Nat :=
 if 0 < nameL l then (if 24 < nameL l then (5, 0, 0) else (0, 1, nameL l))
 else if 0 < numZ l then (0, 2, numZ l)
 else match markL l with
   | some m => (0, 3, m.length)
   | none => (3, 0, 0)
structure Tk where
 kind : Nat
 text : List UInt8
 at_ : Nat
theorem numE_le (l : List UInt8) (a : Nat) (ha : a ≤ l.length) : a ≤ (numE l a).1 ∧ (numE l a).1 ≤ l.length := by
 have h0 := le_runE digB l a
 have h1 := runE_le (p := digB) ha
 unfold numE
 by_cases c1 : runE digB l a = a ∨ runE digB l a = l.length ∨ l.getD (runE digB l a) 0 ≠ 39
 · rw [if_pos c1]; exact ⟨h0, h1⟩
 · rw [if_neg c1]
   have k1 : runE digB l a < l.length := by
     have : runE digB l a ≠ l.length := fun h => c1 (.inr (.inl h))
     omega
   by_cases c2 : l.getD (runE digB l a + 1) 0 = 115
   · have k2 := getD_lt (l := l) (i := runE digB l a + 1) (by rw [c2]; decide)
     rw [if_pos c2]
     by_cases c3 : runE digB l a + 2 = l.length ∨ baseB (l.getD (runE digB l a + 2) 0) = false
     · rw [if_pos c3]; exact ⟨by show a ≤ runE digB l a + 2; omega, by show runE digB l a + 2 ≤ l.length; omega⟩
     · rw [if_neg c3]
       have k3 : runE digB l a + 3 ≤ l.length := by
         have : runE digB l a + 2 ≠ l.length := fun h => c3 (.inl h)
         omega
       have := le_runE valB l (runE digB l a + 3)
       exact ⟨by show a ≤ runE valB l (runE digB l a + 3); omega, runE_le k3⟩
   · rw [if_neg c2]
     by_cases c3 : runE digB l a + 1 = l.length ∨ baseB (l.getD (runE digB l a + 1) 0) = false
     · rw [if_pos c3]; exact ⟨by show a ≤ runE digB l a + 1; omega, by show runE digB l a + 1 ≤ l.length; omega⟩
     · rw [if_neg c3]
       have k3 : runE digB l a + 2 ≤ l.length := by
         have : runE digB l a + 1 ≠ l.length := fun h => c3 (.inl h)
         omega
       have := le_runE valB l (runE digB l a + 2)
       exact ⟨by show a ≤ runE valB l (runE digB l a + 2); omega, runE_le k3⟩
theorem numZ_le (l : List UInt8) : numZ l ≤ l.length := by
 unfold numZ
 split
 · exact (numE_le l 0 (Nat.zero_le _)).2
 · omega
theorem numE_dig {l : List UInt8} {a : Nat} (h : a < l.length) (hc : digB l[a] = false) : numE l a = (a, false) := by
 unfold numE
 rw [runE_stop h hc, if_pos (.inl rfl)]
 simp
theorem numZ_dig {c : UInt8} {t : List UInt8} (hc : digB c = false) : numZ (c :: t) = 0 := by
 unfold numZ
 rw [numE_dig (l := c :: t) (a := 0) (by simp) (by simpa using hc)]
 rfl
theorem numE_pos {l : List UInt8} {a : Nat} (h : (numE l a).2 = true) : a < (numE l a).1 := by
 have h0 := le_runE digB l a
 revert h
 unfold numE
 by_cases c1 : runE digB l a = a ∨ runE digB l a = l.length ∨ l.getD (runE digB l a) 0 ≠ 39
 · rw [if_pos c1]; intro h; exact of_decide_eq_true h
 · rw [if_neg c1]
   by_cases c2 : l.getD (runE digB l a + 1) 0 = 115
   · rw [if_pos c2]
     by_cases c3 : runE digB l a + 2 = l.length ∨ baseB (l.getD (runE digB l a + 2) 0) = false
     · rw [if_pos c3]; intro h; cases h
     · rw [if_neg c3]; intro h
       have : runE digB l a + 3 < runE valB l (runE digB l a + 3) := of_decide_eq_true h
       show a < runE valB l (runE digB l a + 3); omega
   · rw [if_neg c2]
     by_cases c3 : runE digB l a + 1 = l.length ∨ baseB (l.getD (runE digB l a + 1) 0) = false
     · rw [if_pos c3]; intro h; cases h
     · rw [if_neg c3]; intro h
       have : runE digB l a + 2 < runE valB l (runE digB l a + 2) := of_decide_eq_true h
       show a < runE valB l (runE digB l a + 2); omega
theorem tokL_fit {l : List UInt8} (h : (tokL l).1 = 0) : 0 < (tokL l).2.2 ∧ (tokL l).2.2 ≤ l.length := by
 revert h
 unfold tokL
 by_cases c1 : 0 < nameL l
 · rw [if_pos c1]
   by_cases c2 : 24 < nameL l
   · rw [if_pos c2]; intro h; cases h
   · rw [if_neg c2]; intro _; exact ⟨c1, nameL_le l⟩
 · rw [if_neg c1]
   by_cases c2 : 0 < numZ l
   · rw [if_pos c2]; intro _; exact ⟨c2, numZ_le l⟩
   · rw [if_neg c2]
     cases hm : markL l with
     | none => intro h; cases h
     | some m => intro _; have := markL_len hm; exact ⟨this.1, this.2.1⟩
theorem tokL_name {l : List UInt8} {a : Nat} (h : a < l.length) (hc : letB l[a] = true) :
   tokL (l.drop a) = if 24 < runE nmB l (a + 1) - a then (5, 0, 0) else (0, 1, runE nmB l (a + 1) - a) := by
 have e := nameL_run h hc
 have p : 0 < nameL (l.drop a) := by rw [List.drop_eq_getElem_cons h]; exact nameL_pos.2 hc
 unfold tokL
 rw [if_pos p, show runE nmB l (a + 1) - a = nameL (l.drop a) by omega]
theorem let_not_dig {c : UInt8} (h : digB c = true) : letB c = false := by
 have key : ∀ n : Fin 256, (!(digB (UInt8.ofNat n.val)) || !(letB (UInt8.ofNat n.val))) = true := by decide +kernel
 have := key ⟨c.toNat, c.toNat_lt⟩
 simp only [UInt8.ofNat_toNat, h, Bool.not_true, Bool.false_or] at this
 simpa using this
theorem tokL_num {l : List UInt8} {a : Nat} (h : a < l.length) (hc : digB l[a] = true) :
   tokL (l.drop a) = if (numE l a).2 = true then (0, 2, (numE l a).1 - a) else (3, 0, 0) := by
 obtain ⟨e1, e2⟩ := numE_drop l a (by omega)
 have n0 := nameL_none h (let_not_dig hc)
 unfold tokL
 rw [if_neg (by omega)]
 by_cases hn : (numE l a).2 = true
 · have hp := numE_pos hn
   have z : numZ (l.drop a) = (numE l a).1 - a := by unfold numZ; rw [if_pos (by rw [← e2]; exact hn)]; omega
   rw [if_pos hn, z, if_pos (by omega)]
 · have z : numZ (l.drop a) = 0 := by unfold numZ; rw [if_neg (by rw [← e2]; exact hn)]
   rw [if_neg hn, z, if_neg (by omega), List.drop_eq_getElem_cons h, markL_dig hc]
theorem tokL_mark {l : List UInt8} {a : Nat} (h : a < l.length) (hc : letB l[a] = false) (hd : digB l[a] = false) :
   tokL (l.drop a) = match markL (l.drop a) with | some m => (0, 3, m.length) | none => (3, 0, 0) := by
 have n0 := nameL_none h hc
 have z : numZ (l.drop a) = 0 := by rw [List.drop_eq_getElem_cons h]; exact numZ_dig hd
 unfold tokL
 rw [if_neg (by omega), if_neg (by omega)]
def toksL (l : List UInt8) (a : Nat) (out : List Tk) : List Tk × Nat × Nat :=
 if h : a < l.length then
   if l[a] = 32 ∨ l[a] = 10 then toksL l (a + 1) out
   else if (tokL (l.drop a)).1 ≠ 0 then ([], (tokL (l.drop a)).1, a)
   else if out.length = 16384 then ([], 10, a)
   else if (tokL (l.drop a)).2.2 = 0 then ([], 0, 0)
   else toksL l (a + (tokL (l.drop a)).2.2) (out ++ [⟨(tokL (l.drop a)).2.1, (l.drop a).take (tokL (l.drop a)).2.2, a⟩])
 else (out, 0, 0)
 termination_by l.length - a
theorem toksL_end {l : List UInt8} {a : Nat} {out : List Tk} (h : l.length ≤ a) : toksL l a out = (out, 0, 0) := by
 rw [toksL, dif_neg (by omega)]
theorem toksL_skip {l : List UInt8} {a : Nat} {out : List Tk} (h : a < l.length) (hc : l[a] = 32 ∨ l[a] = 10) : toksL l a out = toksL l (a + 1) out := by
 rw [toksL, dif_pos h, if_pos hc]
theorem toksL_bad {l : List UInt8} {a : Nat} {out : List Tk} (h : a < l.length) (hc : ¬ (l[a] = 32 ∨ l[a] = 10)) (ht : (tokL (l.drop a)).1 ≠ 0) : toksL l a out = ([], (tokL (l.drop a)).1, a) := by
 rw [toksL, dif_pos h, if_neg hc, if_pos ht]
theorem toksL_many {l : List UInt8} {a : Nat} {out : List Tk} (h : a < l.length) (hc : ¬ (l[a] = 32 ∨ l[a] = 10)) (ht : (tokL (l.drop a)).1 = 0) (ho : out.length = 16384) : toksL l a out = ([], 10, a) := by
 rw [toksL, dif_pos h, if_neg hc, if_neg (by rw [ht]; decide), if_pos ho]
theorem toksL_step {l : List UInt8} {a : Nat} {out : List Tk} (h : a < l.length) (hc : ¬ (l[a] = 32 ∨ l[a] = 10)) (ht : (tokL (l.drop a)).1 = 0) (ho : out.length ≠ 16384) :
   toksL l a out = toksL l (a + (tokL (l.drop a)).2.2) (out ++ [⟨(tokL (l.drop a)).2.1, (l.drop a).take (tokL (l.drop a)).2.2, a⟩]) := by
 have := tokL_fit ht
 rw [toksL, dif_pos h, if_neg hc, if_neg (by rw [ht]; decide), if_neg ho, if_neg (by omega)]
theorem toksL_len {l : List UInt8} : ∀ (n a : Nat) (out : List Tk), l.length - a ≤ n → out.length ≤ 16384 → (toksL l a out).1.length ≤ 16384 := by
 intro n
 induction n with
 | zero => intro a out h ho; rw [toksL_end (by omega)]; exact ho
 | succ n ih =>
   intro a out h ho
   by_cases h1 : a < l.length
   · by_cases h2 : l[a] = 32 ∨ l[a] = 10
     · rw [toksL_skip h1 h2]; exact ih _ _ (by omega) ho
     · by_cases h3 : (tokL (l.drop a)).1 = 0
       · by_cases h4 : out.length = 16384
         · rw [toksL_many h1 h2 h3 h4]; exact Nat.zero_le _
         · rw [toksL_step h1 h2 h3 h4]
           have := tokL_fit h3
           exact ih _ _ (by omega) (by rw [List.length_append, List.length_singleton]; omega)
       · rw [toksL_bad h1 h2 h3]; exact Nat.zero_le _
   · rw [toksL_end (by omega)]; exact ho
end Nb
namespace Go.Proofs.YtddlokkejglckaaGreatDoor.Nt
open Go.RowKit
inductive Nd where
 | mk (kind : Int) (text : ByteArray) (kids : List Nd)
def Nd.kind : Nd → Int | .mk k _ _ => k
def Nd.text : Nd → ByteArray | .mk _ t _ => t
def Nd.kids : Nd → List Nd | .mk _ _ ks => ks
theorem Nd.eta (n : Nd) : Nd.mk n.kind n.text n.kids = n := by cases n; rfl
mutual
def sz : Nd → Nat
 | .mk _ t ks => t.size + szL ks
def szL : List Nd → Nat
 | [] => 0
 | x :: xs => 1 + sz x + szL xs
end
mutual
def cnt : Nd → Nat
 | .mk _ _ ks => 1 + cntL ks
def cntL : List Nd → Nat
 | [] => 0
 | x :: xs => cnt x + cntL xs
end
mutual
def dep : Nd → Nat
 | .mk _ _ ks => depL ks + 1
def depL : List Nd → Nat
 | [] => 0
 | x :: xs => max (dep x) (depL xs)
end
def hasB (s : Nat) (k : Int) : Bool := decide (1 ≤ k) && decide (k ≤ 47) && s.testBit k.toNat
def tgtK : Nat := 2 ^ 37 + 2 ^ 38 + 2 ^ 39
def expK : Nat := 2 ^ 36 + 2 ^ 37 + 2 ^ 38 + 2 ^ 39 + 2 ^ 40 + 2 ^ 41 + 2 ^ 42 + 2 ^ 43 + 2 ^ 44 + 2 ^ 45 + 2 ^ 46 + 2 ^ 47
def stmK : Nat := 2 ^ 27 + 2 ^ 28 + 2 ^ 29 + 2 ^ 30 + 2 ^ 33 + 2 ^ 34 + 2 ^ 35
def itmK : Nat := 2 ^ 9 + 2 ^ 10 + 2 ^ 11 + 2 ^ 12 + 2 ^ 13 + 2 ^ 14 + 2 ^ 15 + 2 ^ 16 + 2 ^ 17 + 2 ^ 18 + 2 ^ 19 + 2 ^ 20 + 2 ^ 21 + 2 ^ 22
def allK (s : Nat) (ks : List Nd) : Bool := ks.all fun x => hasB s x.kind
def fitK : List Nd → List Nat → Bool
 | [], [] => true
 | x :: xs, s :: ss => hasB s x.kind && fitK xs ss
 | [], _ :: _ => false
 | _ :: _, [] => false
def wordsL : List (List UInt8) := [[109, 111, 100, 117, 108, 101], [101, 110, 100], [105, 110], [111, 117, 116], [115, 105, 103, 110, 101, 100], [117, 110, 115, 105, 103, 110, 101, 100], [119, 105, 114, 101], [114, 101, 103], [109, 101, 109], [99, 111, 110, 115, 116], [101, 110, 117, 109], [97, 115, 115, 105, 103, 110], [99, 111, 109, 98], [111, 110], [115, 116, 97, 114, 116], [99, 104, 101, 99, 107], [102, 117, 110, 99], [102, 111, 114], [119, 104, 101, 110], [101, 108, 115, 101], [117, 115, 101], [105, 102], [99, 97, 115, 101], [100, 101, 102, 97, 117, 108, 116], [119, 97, 105, 116], [115, 116, 111, 112]]
def unL : List (List UInt8) := [[126], [45], [33], [38], [124], [94]]
def binL : List (List UInt8) := [[124, 124], [38, 38], [124], [94], [38], [61, 61], [33, 61], [61, 61, 61], [60], [60, 61], [62], [62, 61], [60, 60], [62, 62], [62, 62, 62], [43], [45], [42], [47], [37]]
def nameB (l : List UInt8) : Bool := decide (l.length ≤ 24) && !l.isEmpty && (Nb.nameL l == l.length)
def freeB (t : ByteArray) : Bool := nameB (L t) && !(wordsL.contains (L t))
def sgnL : List UInt8 := [115, 105, 103, 110, 101, 100]
def nameKinds : List Int := [2, 4, 6, 7, 9, 10, 11, 12, 16, 18, 19, 20, 22, 25, 33, 37, 38, 39, 40]
def txB (k : Int) (t : ByteArray) : Bool :=
 if nameKinds.contains k then freeB t
 else if k = 8 then t.size == 0 || L t == sgnL
 else if k = 36 then (Nb.nbL (L t)).2.2 == 0
 else if k = 45 then unL.contains (L t)
 else if k = 46 then binL.contains (L t)
 else t.size == 0
def armsB (ks : List Nd) : Bool := match ks.getLast? with
 | some x => if x.kind = 32 then allK (2 ^ 31) ks.dropLast else allK (2 ^ 31) ks
 | none => true
def kdB (k : Int) (ks : List Nd) : Bool :=
 if k = 35 ∨ k = 36 ∨ k = 37 then ks.isEmpty
 else if k = 4 ∨ k = 12 ∨ k = 18 ∨ k = 25 ∨ k = 34 ∨ k = 38 ∨ k = 43 ∨ k = 44 ∨ k = 45 then fitK ks [expK]
 else if k = 39 ∨ k = 42 ∨ k = 46 then fitK ks [expK, expK]
 else if k = 47 then fitK ks [expK, expK, expK]
 else if k = 14 ∨ k = 27 ∨ k = 28 then fitK ks [tgtK, expK]
 else if k = 8 then ks.isEmpty || fitK ks [expK]
 else if k = 6 ∨ k = 7 ∨ k = 9 then fitK ks [2 ^ 8]
 else if k = 10 then fitK ks [2 ^ 8] || fitK ks [2 ^ 8, expK]
 else if k = 11 then fitK ks [2 ^ 8, expK]
 else if k = 15 ∨ k = 16 ∨ k = 17 ∨ k = 32 then fitK ks [2 ^ 26]
 else if k = 19 then fitK ks [2 ^ 8, 2 ^ 5, expK] && allK (2 ^ 6) ((ks.drop 1).headD (.mk 0 ⟨#[]⟩ [])).kids
 else if k = 20 then fitK ks [expK, expK, 2 ^ 23]
 else if k = 33 then fitK ks [expK, expK, 2 ^ 26]
 else if k = 21 then fitK ks [expK, 2 ^ 23] || fitK ks [expK, 2 ^ 23, 2 ^ 23]
 else if k = 29 then fitK ks [expK, 2 ^ 26] || fitK ks [expK, 2 ^ 26, 2 ^ 26 + 2 ^ 29]
 else if k = 22 then fitK ks [2 ^ 37, 2 ^ 3, 2 ^ 24]
 else if k = 1 then allK (2 ^ 2) ks
 else if k = 2 then decide (2 ≤ ks.length) && fitK (ks.take 2) [2 ^ 3, 2 ^ 5] && allK itmK (ks.drop 2)
 else if k = 3 then allK (2 ^ 4) ks
 else if k = 5 then allK (2 ^ 6 + 2 ^ 7) ks
 else if k = 13 then decide (1 ≤ ks.length) && allK (2 ^ 37) ks
 else if k = 23 then allK itmK ks
 else if k = 24 then allK (2 ^ 25) ks
 else if k = 26 then allK stmK ks
 else if k = 30 then (match ks with | [] => false | x :: xs => hasB expK x.kind && armsB xs)
 else if k = 31 then decide (2 ≤ ks.length) && allK expK ks.dropLast && (match ks.getLast? with | some x => decide (x.kind = 26) | none => false)
 else if k = 40 then allK expK ks
 else if k = 41 then decide (1 ≤ ks.length) && allK expK ks
 else false
mutual
def fm : Nd → Bool
 | .mk k t ks => txB k t && kdB k ks && fmL ks
def fmL : List Nd → Bool
 | [] => true
 | x :: xs => fm x && fmL xs
end
theorem fm_mk (k : Int) (t : ByteArray) (ks : List Nd) : fm (.mk k t ks) = (txB k t && kdB k ks && fmL ks) := by rw [fm]
theorem fmL_all (ks : List Nd) : fmL ks = ks.all fm := by
 induction ks with
 | nil => rw [fmL]; rfl
 | cons x xs ih => rw [fmL, ih]; rfl
def setOf (c : Nat) : Nat :=
 if c = 116 then 2 ^ 8 else if c = 110 then 2 ^ 37 else if c = 84 then tgtK else if c = 98 then 2 ^ 26 else if c = 66 then 2 ^ 26 + 2 ^ 29
 else if c = 112 then 2 ^ 3 else if c = 80 ∨ c = 70 then 2 ^ 5 else if c = 115 then 2 ^ 23 else if c = 99 then 2 ^ 24 else if c = 109 then 2 ^ 2
 else if c = 105 then itmK else if c = 83 then stmK else expK
def okIs (c : Nat) (n : Nd) : Bool := hasB (setOf c) n.kind && fm n && (c != 70 || allK (2 ^ 6) n.kids)
def kidsB : List Nd → List Nat → Bool
 | [], [] => true
 | x :: xs, c :: cs => okIs c x && kidsB xs cs
 | [], _ :: _ => false
 | _ :: _, [] => false
theorem okIs_of {c : Nat} (h : c ≠ 70) (n : Nd) : okIs c n = (hasB (setOf c) n.kind && fm n) := by
 unfold okIs
 have : (c != 70) = true := by simpa using h
 rw [this, Bool.true_or, Bool.and_true]
theorem kidsB_of : ∀ (ks : List Nd) (cs : List Nat), (∀ c ∈ cs, c ≠ 70) → kidsB ks cs = (fitK ks (cs.map setOf) && fmL ks) := by
 intro ks
 induction ks with
 | nil => intro cs h; cases cs with
   | nil => rfl
   | cons c cs => rfl
 | cons x xs ih => intro cs h; cases cs with
   | nil => rfl
   | cons c cs =>
     show (okIs c x && kidsB xs cs) = ((hasB (setOf c) x.kind && fitK xs (cs.map setOf)) && fmL (x :: xs))
     rw [okIs_of (h c (by simp)), ih cs (fun d hd => h d (by simp [hd])), fmL]
     generalize hasB (setOf c) x.kind = p
     generalize fm x = q
     generalize fitK xs (cs.map setOf) = r
     generalize fmL xs = u
     revert p q r u; decide
theorem allB_of {c : Nat} (h : c ≠ 70) (ks : List Nd) : ks.all (okIs c) = (allK (setOf c) ks && fmL ks) := by
 induction ks with
 | nil => rfl
 | cons x xs ih =>
   rw [List.all_cons, ih, okIs_of h, fmL]
   show _ = ((hasB (setOf c) x.kind && allK (setOf c) xs) && (fm x && fmL xs))
   generalize hasB (setOf c) x.kind = p
   generalize fm x = q
   generalize allK (setOf c) xs = r
   generalize fmL xs = u
   revert p q r u; decide
def fitsB (n : Nd) : Bool := decide (cnt n ≤ 8192) && decide (dep n ≤ 40)
def okN (n : Nd) : Bool := decide (n.kind = 1) && fitsB n && fm n
end Go.Proofs.YtddlokkejglckaaGreatDoor.Nt
namespace Go.Proofs.YtddlokkejglckaaGreatDoor.Nt
abbrev Tok := List UInt8
def tok (s : String) : Tok := s.toUTF8.data.toList
def sepL (s : Tok) : List (List Tok) → List Tok
 | [] => []
 | x :: xs => x ++ xs.flatMap fun y => s :: y
theorem sepL_snoc (s : Tok) (T : List (List Tok)) (y : List Tok) : sepL s (T ++ [y]) = if T = [] then y else sepL s T ++ s :: y := by
 cases T with
 | nil => simp [sepL]
 | cons x xs => simp [sepL]
def kid (T : List (List Tok)) (i : Nat) : List Tok := T.getD i []
abbrev tModule : Tok := [109, 111, 100, 117, 108, 101]
abbrev tEnd : Tok := [101, 110, 100]
abbrev tIn : Tok := [105, 110]
abbrev tOut : Tok := [111, 117, 116]
abbrev tWire : Tok := [119, 105, 114, 101]
abbrev tReg : Tok := [114, 101, 103]
abbrev tMem : Tok := [109, 101, 109]
abbrev tConst : Tok := [99, 111, 110, 115, 116]
abbrev tEnum : Tok := [101, 110, 117, 109]
abbrev tAssign : Tok := [97, 115, 115, 105, 103, 110]
abbrev tComb : Tok := [99, 111, 109, 98]
abbrev tOn : Tok := [111, 110]
abbrev tStart : Tok := [115, 116, 97, 114, 116]
abbrev tCheck : Tok := [99, 104, 101, 99, 107]
abbrev tFunc : Tok := [102, 117, 110, 99]
abbrev tFor : Tok := [102, 111, 114]
abbrev tWhen : Tok := [119, 104, 101, 110]
abbrev tElse : Tok := [101, 108, 115, 101]
abbrev tUse : Tok := [117, 115, 101]
abbrev tIf : Tok := [105, 102]
abbrev tCase : Tok := [99, 97, 115, 101]
abbrev tDefault : Tok := [100, 101, 102, 97, 117, 108, 116]
abbrev tWait : Tok := [119, 97, 105, 116]
abbrev tStop : Tok := [115, 116, 111, 112]
abbrev tSigned : Tok := [115, 105, 103, 110, 101, 100]
abbrev tUnsigned : Tok := [117, 110, 115, 105, 103, 110, 101, 100]
def pieces (k : Int) (t : Tok) (T : List (List Tok)) (TT : List (List (List Tok))) : List Tok :=
 if k = 1 then T.flatten
 else if k = 2 then [tModule, t] ++ kid T 0 ++ kid T 1 ++ (T.drop 2).flatten ++ [tEnd]
 else if k = 3 then (if T = [] then [] else [[35], [40]] ++ sepL [44] T ++ [[41]])
 else if k = 4 then [t, [61]] ++ kid T 0
 else if k = 5 ∨ k = 24 then [[40]] ++ sepL [44] T ++ [[41]]
 else if k = 6 then [tIn] ++ kid T 0 ++ [t]
 else if k = 7 then [tOut] ++ kid T 0 ++ [t]
 else if k = 8 then (if t = [] then [] else [t]) ++ (if T = [] then [] else [[91]] ++ kid T 0 ++ [[93]])
 else if k = 9 then [tWire] ++ kid T 0 ++ [t, [59]]
 else if k = 10 then [tReg] ++ kid T 0 ++ [t] ++ (if T.length ≤ 1 then [] else [61] :: kid T 1) ++ [[59]]
 else if k = 11 then [tMem] ++ kid T 0 ++ [t, [91]] ++ kid T 1 ++ [[93], [59]]
 else if k = 12 then [tConst, t, [61]] ++ kid T 0 ++ [[59]]
 else if k = 13 then [tEnum] ++ sepL [44] T ++ [[59]]
 else if k = 14 then [tAssign] ++ kid T 0 ++ [[61]] ++ kid T 1 ++ [[59]]
 else if k = 15 then [tComb] ++ kid T 0
 else if k = 16 then [tOn, t] ++ kid T 0
 else if k = 17 then [tStart] ++ kid T 0
 else if k = 18 then [tCheck, t, [61]] ++ kid T 0 ++ [[59]]
 else if k = 19 then [tFunc] ++ kid T 0 ++ [t, [40]] ++ sepL [44] ((TT.getD 1 []).map (·.drop 1)) ++ [[41], [61]] ++ kid T 2 ++ [[59]]
 else if k = 20 ∨ k = 33 then [tFor, t, [61]] ++ kid T 0 ++ [[46, 46]] ++ kid T 1 ++ kid T 2
 else if k = 21 then [tWhen] ++ kid T 0 ++ kid T 1 ++ (if T.length ≤ 2 then [] else tElse :: kid T 2)
 else if k = 29 then [tIf] ++ kid T 0 ++ kid T 1 ++ (if T.length ≤ 2 then [] else tElse :: kid T 2)
 else if k = 22 then [tUse, t] ++ kid T 0 ++ kid T 1 ++ kid T 2 ++ [[59]]
 else if k = 23 ∨ k = 26 then [[123]] ++ T.flatten ++ [[125]]
 else if k = 25 then [[46], t, [40]] ++ kid T 0 ++ [[41]]
 else if k = 27 then kid T 0 ++ [[61]] ++ kid T 1 ++ [[59]]
 else if k = 28 then kid T 0 ++ [[60, 61]] ++ kid T 1 ++ [[59]]
 else if k = 30 then [tCase] ++ kid T 0 ++ [[123]] ++ (T.drop 1).flatten ++ [[125]]
 else if k = 31 then sepL [44] T.dropLast ++ [[58]] ++ kid T (T.length - 1)
 else if k = 32 then [tDefault, [58]] ++ kid T 0
 else if k = 34 then [tWait] ++ kid T 0 ++ [[59]]
 else if k = 35 then [tStop, [59]]
 else if k = 38 then [t, [91]] ++ kid T 0 ++ [[93]]
 else if k = 39 then [t, [91]] ++ kid T 0 ++ [[58]] ++ kid T 1 ++ [[93]]
 else if k = 40 then [t, [40]] ++ sepL [44] T ++ [[41]]
 else if k = 41 then [[123]] ++ sepL [44] T ++ [[125]]
 else if k = 42 then [[123]] ++ kid T 0 ++ [[123]] ++ kid T 1 ++ [[125], [125]]
 else if k = 43 then [tSigned, [40]] ++ kid T 0 ++ [[41]]
 else if k = 44 then [tUnsigned, [40]] ++ kid T 0 ++ [[41]]
 else if k = 45 then [[40], t] ++ kid T 0 ++ [[41]]
 else if k = 46 then [[40]] ++ kid T 0 ++ [t] ++ kid T 1 ++ [[41]]
 else if k = 47 then [[40]] ++ kid T 0 ++ [[63]] ++ kid T 1 ++ [[58]] ++ kid T 2 ++ [[41]]
 else [t]
mutual
def tk : Nd → List Tok
 | .mk k t ks => pieces k (L t) (tkL ks) (tkK ks)
def tkL : List Nd → List (List Tok)
 | [] => []
 | x :: xs => tk x :: tkL xs
def tkK : List Nd → List (List (List Tok))
 | [] => []
 | .mk _ _ ys :: xs => tkL ys :: tkK xs
end
theorem tkL_map (ks : List Nd) : tkL ks = ks.map tk := by
 induction ks with
 | nil => rw [tkL]; rfl
 | cons x xs ih => rw [tkL, ih]; rfl
theorem tkK_map (ks : List Nd) : tkK ks = ks.map fun x => x.kids.map tk := by
 induction ks with
 | nil => rw [tkK]; rfl
 | cons x xs ih => obtain ⟨k, t, ys⟩ := x; rw [tkK, ih, tkL_map]; rfl
theorem tk_eq (n : Nd) : tk n = pieces n.kind (L n.text) (n.kids.map tk) (n.kids.map fun x => x.kids.map tk) := by
 obtain ⟨k, t, ks⟩ := n; rw [tk, tkL_map, tkK_map]; rfl
theorem snocInd {α : Type} {p : List α → Prop} (h0 : p []) (h1 : ∀ T s, p T → p (T ++ [s])) (T : List α) : p T := by
 have : ∀ l : List α, p l.reverse := by
   intro l
   induction l with
   | nil => exact h0
   | cons x xs ih => rw [List.reverse_cons]; exact h1 _ _ ih
 have h := this T.reverse
 rwa [List.reverse_reverse] at h
def gapB (s : Tok) : UInt8 := if s = [59] then 10 else 32
def lastT (T : List Tok) : Tok := T.getLast?.getD []
def accL (T : List Tok) : List UInt8 := T.foldl (fun (a : List UInt8 × Nat × Tok) s => (if a.2.1 = 0 then s else a.1 ++ gapB a.2.2 :: s, a.2.1 + 1, s)) ([], 0, []) |>.1
theorem acc_fold (T : List Tok) : T.foldl (fun (a : List UInt8 × Nat × Tok) s => (if a.2.1 = 0 then s else a.1 ++ gapB a.2.2 :: s, a.2.1 + 1, s)) ([], 0, []) = (accL T, T.length, lastT T) := by
 have h : ∀ T : List Tok, (T.foldl (fun (a : List UInt8 × Nat × Tok) s => (if a.2.1 = 0 then s else a.1 ++ gapB a.2.2 :: s, a.2.1 + 1, s)) ([], 0, [])).2 = (T.length, lastT T) := by
   refine snocInd rfl ?_
   intro T s ih
   rw [List.foldl_append]; simp [ih, lastT]
 exact Prod.ext rfl (h T)
theorem accL_snoc (T : List Tok) (s : Tok) : accL (T ++ [s]) = if T = [] then s else accL T ++ gapB (lastT T) :: s := by
 unfold accL
 rw [List.foldl_append, acc_fold]
 simp
def sizeT (T : List Tok) : Nat := (T.map fun s => s.length + 1).sum
theorem sizeT_app (T U : List Tok) : sizeT (T ++ U) = sizeT T + sizeT U := by unfold sizeT; rw [List.map_append, List.sum_append]
theorem accL_len : ∀ T : List Tok, T ≠ [] → (accL T).length + 1 = sizeT T := by
 refine snocInd (fun h => absurd rfl h) ?_
 intro T s ih _
 rw [accL_snoc, sizeT_app]
 by_cases hT : T = []
 · rw [if_pos hT, hT]; simp [sizeT]
 · rw [if_neg hT, List.length_append, List.length_cons, ← ih hT]; simp [sizeT]; omega
end Go.Proofs.YtddlokkejglckaaGreatDoor.Nt
namespace Go.Proofs.YtddlokkejglckaaGreatDoor
open Go.RowKit Nt Go.Deep
set_option linter.unusedVariables false
theorem below_step {w W W' : World} (h : Below w.heap.size w W) (h2 : Below W.heap.size W W') : Below w.heap.size w W' := h.trans (h2.mono h.size)
theorem Nd.ind {p : Nd → Prop} (h : ∀ n, (∀ x ∈ n.kids, p x) → p n) : ∀ n, p n
 | .mk k t ks => h _ (fun x hx => Nd.ind h x)
 termination_by n => SizeOf.sizeOf n
 decreasing_by
   have hx' : x ∈ ks := hx
   have := List.sizeOf_lt_of_mem hx'
   simp; omega
inductive RdB (W : World) (B : Nat) : List Nd → Value → Prop
 | nil (a : Option Addr) (c : Nat) : RdB W B [] (.slice a 0 c)
 | row (b o c : Nat) (kids : List Nd) (vs : Nat → Value) (hB : B ≤ b) (hn : kids.length ≤ maxLen) (hcap : kids.length ≤ c)
     (hc : ∀ i x, kids[i]? = some x → W.cell? ⟨b, o + i * 3, none⟩ = some (.int .i64 x.kind) ∧ W.cell? ⟨b, o + i * 3 + 1, none⟩ = some (.string x.text) ∧ W.cell? ⟨b, o + i * 3 + 2, none⟩ = some (vs i) ∧ x.text.size ≤ maxLen)
     (hk : ∀ i x, kids[i]? = some x → RdB W B x.kids (vs i)) : RdB W B kids (.slice (some ⟨b, o, none⟩) kids.length c)
abbrev RdK (W : World) (ks : List Nd) (v : Value) : Prop := RdB W 0 ks v
theorem RdB_keep {W W' : World} {B : Nat} (hb : ∀ b o x, B ≤ b → W.cell? ⟨b, o, none⟩ = some x → W'.cell? ⟨b, o, none⟩ = some x) {ks : List Nd} {v : Value} (h : RdB W B ks v) : RdB W' B ks v := by
 induction h with
 | nil a c => exact .nil a c
 | row b o c kids vs hB hn hcap hc hk ih =>
   exact .row b o c kids vs hB hn hcap (fun i x hx => ⟨hb _ _ _ hB (hc i x hx).1, hb _ _ _ hB (hc i x hx).2.1, hb _ _ _ hB (hc i x hx).2.2.1, (hc i x hx).2.2.2⟩) ih
theorem RdB_later {W W' : World} {B : Nat} (hb : Below W.heap.size W W') {ks : List Nd} {v : Value} (h : RdB W B ks v) : RdB W' B ks v := RdB_keep (fun _ _ _ _ hc => c_ hb hc) h
theorem RdB_mono {W : World} {B B' : Nat} (hB : B' ≤ B) {ks : List Nd} {v : Value} (h : RdB W B ks v) : RdB W B' ks v := by
 induction h with
 | nil a c => exact .nil a c
 | row b o c kids vs hB2 hn hcap hc hk ih => exact .row b o c kids vs (Nat.le_trans hB hB2) hn hcap hc ih
theorem RdK_later {W W' : World} (hb : Below W.heap.size W W') {ks : List Nd} {v : Value} (h : RdK W ks v) : RdK W' ks v := RdB_later hb h
theorem RdK_cases {W : World} {ks : List Nd} {v : Value} (h : RdK W ks v) : (ks = [] ∧ ∃ a c, v = .slice a 0 c) ∨ ∃ b o c, ∃ vs : Nat → Value, v = .slice (some ⟨b, o, none⟩) ks.length c ∧ ks.length ≤ maxLen ∧
   ∀ i x, ks[i]? = some x → W.cell? ⟨b, o + i * 3, none⟩ = some (.int .i64 x.kind) ∧ W.cell? ⟨b, o + i * 3 + 1, none⟩ = some (.string x.text) ∧ W.cell? ⟨b, o + i * 3 + 2, none⟩ = some (vs i) ∧ x.text.size ≤ maxLen ∧ RdK W x.kids (vs i) := by
 cases h with
 | nil a c => exact .inl ⟨rfl, a, c, rfl⟩
 | row b o c kids vs hB hn hcap hc hk => exact .inr ⟨b, o, c, vs, rfl, hn, fun i x hx => ⟨(hc i x hx).1, (hc i x hx).2.1, (hc i x hx).2.2.1, (hc i x hx).2.2.2, hk i x hx⟩⟩
theorem RdB_slice {W : World} {B : Nat} {ks : List Nd} {v : Value} (h : RdB W B ks v) : ∃ a c, v = .slice a ks.length c := by
 cases h with
 | nil a c => exact ⟨a, c, rfl⟩
 | row b o c kids vs hB hn hcap hc hk => exact ⟨_, c, rfl⟩
theorem RdK_slice {W : World} {ks : List Nd} {v : Value} (h : RdK W ks v) : ∃ a c, v = .slice a ks.length c := by
 cases h with
 | nil a c => exact ⟨a, c, rfl⟩
 | row b o c kids vs hB hn hcap hc hk => exact ⟨_, c, rfl⟩
theorem RdK_cap {W : World} {ks : List Nd} {a : Option Addr} {n c : Nat} (h : RdK W ks (.slice a n c)) : ks.length ≤ c := by
 generalize hv : Value.slice a n c = v at h
 cases h with
 | nil a' c' => simp
 | row b o c' kids vs hB hn hcap hc hk => injection hv with _ _ h3; rw [h3]; exact hcap
section
variable {H : Type} {enc : TypeId × Value → H} {P : Program} {w : World}
theorem open_node {tN tS tI tT : TypeId} {f0 f1 f2 : Field} (hN : P.underlying tN = some (.struct #[f0, f1, f2])) (hS : P.underlying tS = some (.slice tN)) (hI : P.underlying tI = some (.int .i64)) (hT : P.underlying tT = some .string)
   (h0 : f0.type = tI ∧ f0.offset = 0) (h1 : f1.type = tT ∧ f1.offset = 1) (h2 : f2.type = tS ∧ f2.offset = 2) (cI : P.cellsOf tI = 1) (cT : P.cellsOf tT = 1) (cS : P.cellsOf tS = 1) (cN : P.cellsOf tN = 3) :
   ∀ (fuel : Nat) (cs : List Value) (x : DataW H × List MemPlace), DataW.trod enc P w 0 (fun _ => true) true fuel tN cs = some x → ∃ (n : Nd) (v : Value), cs = [.int .i64 n.kind, .string n.text, v] ∧ n.text.size ≤ maxLen ∧ RdK w n.kids v := by
 intro fuel
 induction fuel using Nat.strongRecOn with
 | _ fuel ih =>
   intro cs x h
   obtain ⟨xs, m, hf, hx, hl, hxl, hfs⟩ := DataW.trod_struct hN h
   rw [cN] at hl
   match cs, hl with
   | [c0, c1, c2], _ =>
     have e0 := hfs 0 f0 rfl
     have e1 := hfs 1 f1 rfl
     have e2 := hfs 2 f2 rfl
     have hxl' : xs.length = 3 := hxl
     rw [h0.1, h0.2, cI, List.getElem?_eq_getElem (by omega)] at e0
     rw [h1.1, h1.2, cT, List.getElem?_eq_getElem (by omega)] at e1
     rw [h2.1, h2.2, cS, List.getElem?_eq_getElem (by omega)] at e2
     obtain ⟨k, hk, _, _⟩ := DataW.trod_int hI e0
     obtain ⟨t, ht, _, hts⟩ := DataW.trod_string hT e1
     have hk' : c0 = .int .i64 k := by simpa using hk
     have ht' : c1 = .string t := by simpa using ht
     subst hk' ht'
     rcases DataW.trod_slice hS e2 with ⟨hcs, _⟩ | ⟨a, len, cap, elems, rest, n', hf', hcs, _, _, hlc, hcm, hlen, hel, _, _⟩
     · have : c2 = .slice none 0 0 := by simpa using hcs
       subst this
       exact ⟨.mk k t [], _, rfl, hts, .nil none 0⟩
     · have : c2 = .slice (some a) len cap := by simpa using hcs
       subst this
       by_cases hz : len = 0
       · subst hz
         exact ⟨.mk k t [], _, rfl, hts, .nil _ _⟩
       · have key : ∀ i, i < len → ∃ (q : Nd × Value), w.cell? (a.add (i * 3)) = some (.int .i64 q.1.kind) ∧ w.cell? (a.add (i * 3 + 1)) = some (.string q.1.text) ∧ w.cell? (a.add (i * 3 + 2)) = some q.2 ∧ q.1.text.size ≤ maxLen ∧ RdK w q.1.kids q.2 := by
           intro i hi
           have hE := hel i hi
           rw [List.getElem?_eq_getElem (by omega), cN] at hE
           obtain ⟨cs', hc', ht'⟩ := Option.bind_eq_some_iff.1 hE
           obtain ⟨n, v, rfl, hns, hr⟩ := ih n' (by omega) _ _ ht'
           obtain ⟨_, _, hcell⟩ := World.cells?_some hc'
           refine ⟨(n, v), ?_, ?_, ?_, hns, hr⟩
           · simpa [add_add] using hcell 0 (by omega)
           · simpa [add_add] using hcell 1 (by omega)
           · simpa [add_add] using hcell 2 (by omega)
         have : Inhabited Nd := ⟨.mk 0 ⟨#[]⟩ []⟩
         have : Inhabited Value := ⟨.bool true⟩
         obtain ⟨f, hf⟩ := choose_lt (α := Nd × Value) key
         have hspot : a.spot = none := by simpa [Addr.add] using World.cell?_spot (hf 0 (by omega)).1
         obtain ⟨b, o, sp⟩ := a
         have hspot' : sp = none := hspot
         subst hspot'
         refine ⟨.mk k t ((List.range len).map fun i => (f i).1), .slice (some ⟨b, o, none⟩) len cap, rfl, hts, ?_⟩
         have hr := RdB.row (W := w) (B := 0) b o cap ((List.range len).map fun i => (f i).1) (fun i => (f i).2) (Nat.zero_le _) (by simp; omega) (by simp; omega) ?_ ?_
         · have hr2 : RdK w ((List.range len).map fun i => (f i).1) (.slice (some ⟨b, o, none⟩) len cap) := by simpa using hr
           exact hr2
         · intro i x hx
           simp only [List.getElem?_map, Option.map_eq_some_iff] at hx
           obtain ⟨i', hi', rfl⟩ := hx
           have hil : i < len := by simpa using (List.getElem?_eq_some_iff.1 hi').1
           have hii : i' = i := by simpa [List.getElem?_range hil] using hi'.symm
           subst hii
           obtain ⟨p1, p2, p3, p4, _⟩ := hf i' hil
           rw [Addr.add_lit] at p1 p2 p3
           exact ⟨p1, by rw [Nat.add_assoc]; exact p2, by rw [Nat.add_assoc]; exact p3, p4⟩
         · intro i x hx
           simp only [List.getElem?_map, Option.map_eq_some_iff] at hx
           obtain ⟨i', hi', rfl⟩ := hx
           have hil : i < len := by simpa using (List.getElem?_eq_some_iff.1 hi').1
           have hii : i' = i := by simpa [List.getElem?_range hil] using hi'.symm
           subst hii
           exact (hf i' hil).2.2.2.2
end
end Go.Proofs.YtddlokkejglckaaGreatDoor
namespace Go.Proofs.YtddlokkejglckaaGreatDoor
open Go.RowKit Nt
set_option linter.unusedVariables false
structure Pr (pb : Nat) (v v' : Value) (W W' : World) : Prop where
 os : W'.os = W.os
 tape : W'.tape = W.tape
 output : W'.output = W.output
 size : W.heap.size ≤ W'.heap.size
 block : ∀ k, k < W.heap.size → k ≠ pb → v.ownBlock ≠ some k → W'.heap[k]? = W.heap[k]?
 own : v'.ownBlock = v.ownBlock ∨ ∃ k, v'.ownBlock = some k ∧ W.heap.size ≤ k
theorem Pr.refl (pb : Nat) (v : Value) (W : World) : Pr pb v v W W := ⟨rfl, rfl, rfl, Nat.le_refl _, fun _ _ _ _ => rfl, .inl rfl⟩
theorem Pr.apart {pb : Nat} {v v' : Value} {W W' : World} (h : Pr pb v v' W W') {k : Nat} (hk : k < W.heap.size) (ha : v.ownBlock ≠ some k) : v'.ownBlock ≠ some k := by
 rcases h.own with e | ⟨j, e, hj⟩
 · rw [e]; exact ha
 · rw [e]; intro h2; injection h2; omega
theorem Pr.trans {pb : Nat} {v v1 v2 : Value} {W W1 W2 : World} (h : Pr pb v v1 W W1) (k : Pr pb v1 v2 W1 W2) : Pr pb v v2 W W2 := by
 refine ⟨k.os.trans h.os, k.tape.trans h.tape, k.output.trans h.output, Nat.le_trans h.size k.size, fun j hj hp ha => ?_, ?_⟩
 · exact (k.block j (Nat.lt_of_lt_of_le hj h.size) hp (h.apart hj ha)).trans (h.block j hj hp ha)
 · rcases k.own with e | ⟨j, e, hj⟩
   · rw [e]; exact h.own
   · exact .inr ⟨j, e, Nat.le_trans h.size hj⟩
theorem Pr.alloc {pb : Nat} {v v' : Value} {W W' : World} (h : Pr pb v v' W W') (o : Obj) : Pr pb v v' W (W'.alloc o) :=
 ⟨h.os, h.tape, h.output, Nat.le_trans h.size (by simp), fun k hk hp ha => (heap_alloc_old W' o (Nat.lt_of_lt_of_le hk h.size)).trans (h.block k hk hp ha), h.own⟩
theorem Pr.drew {pb : Nat} {v v' : Value} {W W' : World} (h : Pr pb v v' W W') : Pr pb v v' W W'.drew := ⟨h.os, h.tape, h.output, h.size, h.block, h.own⟩
theorem Pr.ofAlloc (pb : Nat) (v : Value) (W : World) (o : Obj) : Pr pb v v W (W.alloc o) := (Pr.refl pb v W).alloc o
theorem Pr.cell {pb : Nat} {v v' : Value} {W W' : World} (h : Pr pb v v' W W') {k o : Nat} {x : Value} (hc : W.cell? ⟨k, o, none⟩ = some x) (hp : k ≠ pb) (ha : v.ownBlock ≠ some k) : W'.cell? ⟨k, o, none⟩ = some x :=
 (World.cell?_of_block (a := ⟨k, o, none⟩) (h.block k (World.block_lt_of_cell? W _ hc) hp ha)).trans hc
theorem Pr.below {pb B : Nat} {v v' : Value} {W W' : World} (h : Pr pb v v' W W') (hB : B ≤ pb) (hv : ∀ k, v.ownBlock = some k → B ≤ k) (hs : B ≤ W.heap.size) : Below B W W' :=
 ⟨h.os, h.tape, h.output, h.size, fun k hk => h.block k (Nat.lt_of_lt_of_le hk hs) (by omega) (fun e => by have := hv k e; omega)⟩
structure Po (pb : Nat) (T : List Tok) (v : Value) (W : World) : Prop where
 row : OB (pb + 1) v (accL T) W
 c0 : W.cell? ⟨pb, 0, none⟩ = some v
 c1 : W.cell? ⟨pb, 1, none⟩ = some (.int .i64 (T.length : Nat))
 c2 : W.cell? ⟨pb, 2, none⟩ = some (.string (S (lastT T)))
 f0 : W.frozen? ⟨pb, 0, none⟩ = false
 f1 : W.frozen? ⟨pb, 1, none⟩ = false
 f2 : W.frozen? ⟨pb, 2, none⟩ = false
theorem Po.alloc {pb : Nat} {T : List Tok} {v : Value} {W : World} (h : Po pb T v W) (o : Obj) : Po pb T v (W.alloc o) :=
 ⟨World.ownsRow.alloc h.row o, c_ (bal (brf W) o) h.c0, c_ (bal (brf W) o) h.c1, c_ (bal (brf W) o) h.c2, frozen_later (bal (brf W) o) h.c0 h.f0, frozen_later (bal (brf W) o) h.c1 h.f1, frozen_later (bal (brf W) o) h.c2 h.f2⟩
theorem Po.lt {pb : Nat} {T : List Tok} {v : Value} {W : World} (h : Po pb T v W) : pb < W.heap.size := World.block_lt_of_cell? W _ h.c0
theorem Po.own {pb : Nat} {T : List Tok} {v : Value} {W : World} (h : Po pb T v W) : ∀ k, v.ownBlock = some k → pb + 1 ≤ k := fun k hk => (World.ownsRow.lt h.row k hk).1
theorem Po.new {pb : Nat} {T : List Tok} {v : Value} {W : World} (h : Po pb T v W) : v.ownBlock ≠ some W.heap.size := fun e => by have := (World.ownsRow.lt h.row _ e).2; omega
theorem Po.below {pb : Nat} {T : List Tok} {v v' : Value} {W W' : World} (h : Po pb T v W) (k : Pr pb v v' W W') : Below pb W W' :=
 k.below (Nat.le_refl _) (fun j hj => by have := h.own j hj; omega) (Nat.le_of_lt h.lt)
set_option maxHeartbeats 400000
set_option maxRecDepth 100000
theorem byteCells_bv (s : ByteArray) : byteCells s = (L s).map bv := rfl
theorem listBs {ops : Array Oper} {rest : List Oper} {o : Oper} {a : Act} {w : World} {Q : Exit → Act → World → Prop} (hgd : o.guard = none) (s x : Operand)
   (ho : o.op = .call { callee := .builtin .append, args := #[s, x], argTypes := #[37, 9] }) {Z : Nat} {v : Value} {l : List UInt8} (hs : a.eval s = v) (hown : OB Z v l w) (y : ByteArray)
   (hx : a.eval x = .string y) (h63 : l.length + y.size ≤ 4398046511104) (hZ : Z ≤ w.heap.size)
   (h : ∀ v' w', OB Z v' (l ++ L y) w' → w.grownBy w' v.ownBlock → (v'.ownBlock = v.ownBlock ∨ ∃ k, v'.ownBlock = some k ∧ w.heap.size ≤ k) → wpList Tryz.prog ops Q rest (a.put o.dst v') w') :
   wpList Tryz.prog ops Q (o :: rest) a w := by
 obtain ⟨i0, hi, hz0, hz1, hz2⟩ := info_parts info5
 refine wpList_plain hgd fun _ hK => wp_own_src w s x 37 9 ho Z 5 i0 (.int .u8 0) 1 1 Tryz.underlying37 hi hz0 hz1 hz2 rfl (by decide) v l.length (l.map bv) hs hown (.string y) y.size (byteCells y) hx (Src.ofString w Tryz.underlying9 y) (by unfold maxLen; omega) (by omega) hZ ?_
 intro v' w' hown' hgrow hk
 refine hK _ _ (h v' w' ?_ hgrow hk)
 unfold OB
 rw [List.length_append, List.map_append, L_len]
 exact hown'
theorem listB1 {ops : Array Oper} {rest : List Oper} {o : Oper} {a : Act} {w : World} {Q : Exit → Act → World → Prop} (hgd : o.guard = none) (s x : Operand)
   (ho : o.op = .call { callee := .builtin .append, args := #[s, x], argTypes := #[37, 37] }) {Z : Nat} {v : Value} {l : List UInt8} (hs : a.eval s = v) (hown : OB Z v l w) (M : Nat) (c : UInt8)
   (hx : a.eval x = .slice (some ⟨M, 0, none⟩) 1 1) (hc : w.cell? ⟨M, 0, none⟩ = some (bv c)) (h63 : l.length ≤ 4398046511104) (hZ : Z ≤ w.heap.size)
   (h : ∀ v' w', OB Z v' (l ++ [c]) w' → w.grownBy w' v.ownBlock → (v'.ownBlock = v.ownBlock ∨ ∃ k, v'.ownBlock = some k ∧ w.heap.size ≤ k) → wpList Tryz.prog ops Q rest (a.put o.dst v') w') :
   wpList Tryz.prog ops Q (o :: rest) a w := by
 obtain ⟨i0, hi, hz0, hz1, hz2⟩ := info_parts info5
 refine wpList_plain hgd fun _ hK => wp_own_src w s x 37 37 ho Z 5 i0 (.int .u8 0) 1 1 Tryz.underlying37 hi hz0 hz1 hz2 rfl (by decide) v l.length (l.map bv) hs hown (.slice (some ⟨M, 0, none⟩) 1 1) 1 [bv c] hx (Src.ofSlice w Tryz.underlying37 ⟨M, 0, none⟩ 1 1 [bv c] rfl ?_ ?_) (by unfold maxLen; omega) (by omega) hZ ?_
 · intro j u hu
   cases j with
   | zero => obtain rfl : bv c = u := by simpa using hu
             rw [Addr.add_lit]; exact hc
   | succ j => simp at hu
 · intro u hu; simp at hu; subst hu; rfl
 · intro v' w' hown' hgrow hk
   exact hK _ _ (h v' w' (OB_step hown') hgrow hk)
theorem Pr.ofGrown {pb : Nat} {v v' : Value} {W W' : World} (h : W.grownBy W' v.ownBlock) (hk : v'.ownBlock = v.ownBlock ∨ ∃ k, v'.ownBlock = some k ∧ W.heap.size ≤ k) : Pr pb v v' W W' :=
 ⟨h.os, h.tape, h.output, h.size, fun k hk _ ha => h.block k hk (fun e => ha e.symm), hk⟩
theorem Pr.set {pb : Nat} {v v' : Value} {W W' : World} (h : Pr pb v v' W W') (o : Nat) (x : Value) : Pr pb v v' W (W'.setCell ⟨pb, o, none⟩ x) :=
 ⟨h.os, h.tape, h.output, Nat.le_trans h.size (by simp [World.setCell]), fun k hk hp ha => (Below.heap_setCell W' ⟨pb, o, none⟩ x k (fun e => hp (by rw [e]))).trans (h.block k hk hp ha), h.own⟩
theorem st_same {w : World} {a : Addr} {v u : Value} (h : w.cell? a = some u) : (w.setCell a v).cell? a = some v := World.cell?_setCell_same (w := w) (a := a) (v := v) h
theorem st_other {w : World} {a b : Addr} {v : Value} (h : a ≠ b) : (w.setCell a v).cell? b = w.cell? b := World.cell?_setCell_other (w := w) (a := a) (b := b) (v := v) h
theorem OB_slice {B : Nat} {v : Value} {l : List UInt8} {W : World} (h : OB B v l W) : ∃ a n c, v = .slice a n c := by
 rcases h.2 with ⟨rfl, hn⟩ | ⟨g, cap, cur, rfl, _⟩
 · exact ⟨none, 0, 0, rfl⟩
 · exact ⟨_, _, _, rfl⟩
theorem len_sizeT (T : List Tok) : T.length ≤ sizeT T := by
 induction T with
 | nil => exact Nat.zero_le _
 | cons x xs ih => have : sizeT (x :: xs) = x.length + 1 + sizeT xs := by simp [sizeT]
                   rw [this, List.length_cons]; omega
theorem Po.ne {pb : Nat} {T : List Tok} {v : Value} {W : World} (h : Po pb T v W) : some pb ≠ v.ownBlock := fun e => by have := h.own pb e.symm; omega
theorem Po.done {pb : Nat} {T : List Tok} {t : Tok} {v1 : Value} {W1 : World} {c : Int} {s : ByteArray} {x0 x1 x2 : Value} (hrow : OB (pb + 1) v1 (accL (T ++ [t])) W1) (d0 : W1.cell? ⟨pb, 0, none⟩ = some x0) (d1 : W1.cell? ⟨pb, 1, none⟩ = some x1) (d2 : W1.cell? ⟨pb, 2, none⟩ = some x2)
   (f0 : W1.frozen? ⟨pb, 0, none⟩ = false) (f1 : W1.frozen? ⟨pb, 1, none⟩ = false) (f2 : W1.frozen? ⟨pb, 2, none⟩ = false) (hc : c = ((T ++ [t]).length : Nat)) (hs : s = S t) :
   Po pb (T ++ [t]) v1 (((W1.setCell ⟨pb, 0, none⟩ v1).setCell ⟨pb, 1, none⟩ (.int .i64 c)).setCell ⟨pb, 2, none⟩ (.string s)) := by
 have q0 : (W1.setCell ⟨pb, 0, none⟩ v1).cell? ⟨pb, 0, none⟩ = some v1 := st_same d0
 have q1 : (W1.setCell ⟨pb, 0, none⟩ v1).cell? ⟨pb, 1, none⟩ = some x1 := (st_other (by simp)).trans d1
 have q2 : (W1.setCell ⟨pb, 0, none⟩ v1).cell? ⟨pb, 2, none⟩ = some x2 := (st_other (by simp)).trans d2
 have r1 : ((W1.setCell ⟨pb, 0, none⟩ v1).setCell ⟨pb, 1, none⟩ (.int .i64 c)).cell? ⟨pb, 1, none⟩ = some (.int .i64 c) := st_same q1
 have r2 : ((W1.setCell ⟨pb, 0, none⟩ v1).setCell ⟨pb, 1, none⟩ (.int .i64 c)).cell? ⟨pb, 2, none⟩ = some x2 := (st_other (by simp)).trans q2
 refine ⟨?_, ?_, ?_, ?_, by simpa using f0, by simpa using f1, by simpa using f2⟩
 · exact ownsRow_setCell_below (ownsRow_setCell_below (ownsRow_setCell_below hrow (by show pb < pb + 1; omega) _) (by show pb < pb + 1; omega) _) (by show pb < pb + 1; omega) _
 · exact (st_other (by simp)).trans ((st_other (by simp)).trans q0)
 · rw [← hc]; exact (st_other (by simp)).trans r1
 · have hl : lastT (T ++ [t]) = t := by simp [lastT]
   rw [hl, ← hs]; exact st_same r2
theorem Po.step {pb : Nat} {T : List Tok} {v : Value} {W W1 : World} (h : Po pb T v W) (hg : W.grownBy W1 v.ownBlock) : W1.cell? ⟨pb, 0, none⟩ = some v ∧ W1.cell? ⟨pb, 1, none⟩ = some (.int .i64 (T.length : Nat)) ∧ W1.cell? ⟨pb, 2, none⟩ = some (.string (S (lastT T))) ∧ W1.frozen? ⟨pb, 0, none⟩ = false ∧ W1.frozen? ⟨pb, 1, none⟩ = false ∧ W1.frozen? ⟨pb, 2, none⟩ = false :=
 ⟨hg.cell h.c0 h.ne, hg.cell h.c1 h.ne, hg.cell h.c2 h.ne, (World.frozen?_of_block (hg.block pb h.lt h.ne)).trans h.f0, (World.frozen?_of_block (hg.block pb h.lt h.ne)).trans h.f1, (World.frozen?_of_block (hg.block pb h.lt h.ne)).trans h.f2⟩
theorem sPut0 (pb : Nat) (ov : Value) (s : ByteArray) (w : World) (hpo : Po pb [] ov w) (hs : s.size ≤ 1099511627776) :
   Calls Tryz.prog 20 #[.pointer (some ⟨pb, 0, none⟩), .string s] w fun e w' => e = .returned (.tuple #[]) ∧ ∃ ov', Po pb ([] ++ [L s]) ov' w' ∧ Pr pb ov ov' w w' := by
 have c0 := hpo.c0
 have c1 := hpo.c1
 have c2 := hpo.c2
 have HPO := h_ hpo
 have hlt := hpo.lt
 have hz : (accL []).length + s.size ≤ 4398046511104 := by show 0 + s.size ≤ _; omega
 have hacc : accL ([] ++ [L s]) = accL [] ++ L s := by rw [accL_snoc, if_pos rfl]; rfl
 clear hpo
 go_enter Tryz.func20, Tryz.ntmps20
 go_wp2_with (at_builtin; refine listBs rfl _ _ rfl rfl (u_ HPO).row s rfl hz (by omega) ?_; intro v1 w1 hrow1 hgr1 hk1; obtain ⟨d0, d1, d2, g0, g1, g2⟩ := (u_ HPO).step hgr1; rw [← hacc] at hrow1; have HROW := h_ hrow1; have HPR := h_ (Pr.ofGrown (pb := pb) hgr1 hk1); clear hk1 hgr1; obtain ⟨a1, m1, n1, rfl⟩ := OB_slice hrow1; clear hrow1 c0 c1 c2)
 refine bodyPost_end (v := .tuple #[]) (by simp [results, Tryz.results20, go_sem]) rfl ⟨rfl, _, Po.done (u_ HROW) d0 d1 d2 g0 g1 g2 ?_ ?_, (((u_ HPR).set 0 _).set 1 _).set 2 _⟩
 · rfl
 · rw [S_L]
theorem OB_ne {pb : Nat} {v : Value} {l : List UInt8} {W : World} (h : OB (pb + 1) v l W) : some pb ≠ v.ownBlock := fun e => by have := (World.ownsRow.lt h pb e.symm).1; omega
theorem second {pb : Nat} {v1 x0 x1 x2 : Value} {l : List UInt8} {W1 W2 : World} (hrow : OB (pb + 1) v1 l W1) (d0 : W1.cell? ⟨pb, 0, none⟩ = some x0) (d1 : W1.cell? ⟨pb, 1, none⟩ = some x1) (d2 : W1.cell? ⟨pb, 2, none⟩ = some x2)
   (f0 : W1.frozen? ⟨pb, 0, none⟩ = false) (f1 : W1.frozen? ⟨pb, 1, none⟩ = false) (f2 : W1.frozen? ⟨pb, 2, none⟩ = false) (hg : (W1.setCell ⟨pb, 0, none⟩ v1).grownBy W2 v1.ownBlock) :
   W2.cell? ⟨pb, 0, none⟩ = some v1 ∧ W2.cell? ⟨pb, 1, none⟩ = some x1 ∧ W2.cell? ⟨pb, 2, none⟩ = some x2 ∧ W2.frozen? ⟨pb, 0, none⟩ = false ∧ W2.frozen? ⟨pb, 1, none⟩ = false ∧ W2.frozen? ⟨pb, 2, none⟩ = false := by
 have hlt : pb < (W1.setCell ⟨pb, 0, none⟩ v1).heap.size := World.block_lt_of_cell? _ _ (st_same d0)
 exact ⟨hg.cell (st_same d0) (OB_ne hrow), hg.cell ((st_other (by simp)).trans d1) (OB_ne hrow), hg.cell ((st_other (by simp)).trans d2) (OB_ne hrow),
   (World.frozen?_of_block (hg.block pb hlt (OB_ne hrow))).trans (by simpa using f0), (World.frozen?_of_block (hg.block pb hlt (OB_ne hrow))).trans (by simpa using f1), (World.frozen?_of_block (hg.block pb hlt (OB_ne hrow))).trans (by simpa using f2)⟩
theorem toLL (s : ByteArray) : s.toList = L s := by rw [ByteArray.toList_eq]; rfl
theorem sPut1 (pb : Nat) (T : List Tok) (ov : Value) (s : ByteArray) (w : World) (hpo : Po pb T ov w) (hT : T ≠ []) (hl : lastT T = [59]) (hs : sizeT T + s.size ≤ 1099511627776) :
   Calls Tryz.prog 20 #[.pointer (some ⟨pb, 0, none⟩), .string s] w fun e w' => e = .returned (.tuple #[]) ∧ ∃ ov', Po pb (T ++ [L s]) ov' w' ∧ Pr pb ov ov' w w' := by
 have c0 := hpo.c0
 have c1 := hpo.c1
 have c2 := hpo.c2
 rw [hl] at c2
 have hq : (S [59]).toList = [59] := by rw [toLL]; exact L_S _
 have hlt := hpo.lt
 have hlen := accL_len T hT
 have hpos : 0 < T.length := List.length_pos_iff.2 hT
 have htl : T.length ≤ sizeT T := len_sizeT T
 have q1 : (0 : Int) < (T.length : Nat) := by omega
 have hacc : accL (T ++ [L s]) = (accL T ++ [10]) ++ L s := by rw [accL_snoc, if_neg hT, hl]; simp [gapB]
 have HPA := h_ (hpo.alloc (Obj.cells #[Value.int IntKind.u8 10] 5))
 have HPR0 := h_ (Pr.ofAlloc pb ov w (Obj.cells #[Value.int IntKind.u8 10] 5))
 clear hpo
 go_enter Tryz.func20, Tryz.ntmps20
 go_wp2_with (first
   | (at_builtin; refine listBs rfl _ _ rfl rfl (ownsRow_setCell_below (u_ HROW) (by show pb < pb + 1; omega) _) s rfl (by rw [List.length_append]; simp; omega) (by simp; omega) ?_; intro v2 w2 hrow2 hgr2 hk2; obtain ⟨e0, e1, e2, j0, j1, j2⟩ := second (u_ HROW) d0 d1 d2 g0 g1 g2 hgr2; rw [← hacc] at hrow2; have HROW2 := h_ hrow2; have HPR2 := h_ (((u_ HPR).set 0 _).trans (Pr.ofGrown (pb := pb) hgr2 hk2)); clear hk2 hgr2; obtain ⟨a2, m2, n2, rfl⟩ := OB_slice hrow2; clear hrow2 d0 d1 d2 g0 g1 g2)
   | (at_builtin; refine listB1 rfl _ _ rfl rfl (u_ HPA).row _ 10 rfl (by rw [World.cell?_alloc_new]; rfl) (by omega) (by simp; omega) ?_; intro v1 w1 hrow1 hgr1 hk1; obtain ⟨d0, d1, d2, g0, g1, g2⟩ := (u_ HPA).step hgr1; have HROW := h_ hrow1; have HPR := h_ ((u_ HPR0).trans (Pr.ofGrown (pb := pb) hgr1 hk1)); clear hk1 hgr1; obtain ⟨a1, m1, n1, rfl⟩ := OB_slice hrow1; clear hrow1 c0 c1 c2; have hw1 : w.heap.size ≤ w1.heap.size := (u_ HPR).size))
 refine bodyPost_end (v := .tuple #[]) (by simp [results, Tryz.results20, go_sem]) rfl ⟨rfl, _, Po.done (u_ HROW2) e0 e1 e2 j0 j1 j2 ?_ ?_, (((u_ HPR2).set 0 _).set 1 _).set 2 _⟩
 · simp
 · rw [S_L]
theorem sPut2 (pb : Nat) (T : List Tok) (ov : Value) (s : ByteArray) (w : World) (hpo : Po pb T ov w) (hT : T ≠ []) (hl : lastT T ≠ [59]) (hs : sizeT T + s.size ≤ 1099511627776) :
   Calls Tryz.prog 20 #[.pointer (some ⟨pb, 0, none⟩), .string s] w fun e w' => e = .returned (.tuple #[]) ∧ ∃ ov', Po pb (T ++ [L s]) ov' w' ∧ Pr pb ov ov' w w' := by
 have c0 := hpo.c0
 have c1 := hpo.c1
 have c2 := hpo.c2
 have hq : ((S (lastT T)).toList == [59]) = false := by rw [toLL, L_S]; exact beq_eq_false_iff_ne.2 hl
 have hlt := hpo.lt
 have hlen := accL_len T hT
 have hpos : 0 < T.length := List.length_pos_iff.2 hT
 have htl : T.length ≤ sizeT T := len_sizeT T
 have q1 : (0 : Int) < (T.length : Nat) := by omega
 have hacc : accL (T ++ [L s]) = (accL T ++ [32]) ++ L s := by rw [accL_snoc, if_neg hT]; simp [gapB, hl]
 have HPA := h_ (hpo.alloc (Obj.cells #[Value.int IntKind.u8 32] 5))
 have HPR0 := h_ (Pr.ofAlloc pb ov w (Obj.cells #[Value.int IntKind.u8 32] 5))
 clear hpo
 go_enter Tryz.func20, Tryz.ntmps20
 go_wp2_with (first
   | (at_builtin; refine listBs rfl _ _ rfl rfl (ownsRow_setCell_below (u_ HROW) (by show pb < pb + 1; omega) _) s rfl (by rw [List.length_append]; simp; omega) (by simp; omega) ?_; intro v2 w2 hrow2 hgr2 hk2; obtain ⟨e0, e1, e2, j0, j1, j2⟩ := second (u_ HROW) d0 d1 d2 g0 g1 g2 hgr2; rw [← hacc] at hrow2; have HROW2 := h_ hrow2; have HPR2 := h_ (((u_ HPR).set 0 _).trans (Pr.ofGrown (pb := pb) hgr2 hk2)); clear hk2 hgr2; obtain ⟨a2, m2, n2, rfl⟩ := OB_slice hrow2; clear hrow2 d0 d1 d2 g0 g1 g2)
   | (at_builtin; refine listB1 rfl _ _ rfl rfl (u_ HPA).row _ 32 rfl (by rw [World.cell?_alloc_new]; rfl) (by omega) (by simp; omega) ?_; intro v1 w1 hrow1 hgr1 hk1; obtain ⟨d0, d1, d2, g0, g1, g2⟩ := (u_ HPA).step hgr1; have HROW := h_ hrow1; have HPR := h_ ((u_ HPR0).trans (Pr.ofGrown (pb := pb) hgr1 hk1)); clear hk1 hgr1; obtain ⟨a1, m1, n1, rfl⟩ := OB_slice hrow1; clear hrow1 c0 c1 c2; have hw1 : w.heap.size ≤ w1.heap.size := (u_ HPR).size))
 refine bodyPost_end (v := .tuple #[]) (by simp [results, Tryz.results20, go_sem]) rfl ⟨rfl, _, Po.done (u_ HROW2) e0 e1 e2 j0 j1 j2 ?_ ?_, (((u_ HPR2).set 0 _).set 1 _).set 2 _⟩
 · simp
 · rw [S_L]
theorem sPut (pb : Nat) (T : List Tok) (ov : Value) (s : ByteArray) (w : World) (hpo : Po pb T ov w) (hs : sizeT (T ++ [L s]) ≤ 1099511627776) :
   Calls Tryz.prog 20 #[.pointer (some ⟨pb, 0, none⟩), .string s] w fun e w' => e = .returned (.tuple #[]) ∧ ∃ ov', Po pb (T ++ [L s]) ov' w' ∧ Pr pb ov ov' w w' := by
 have hz : sizeT (T ++ [L s]) = sizeT T + (s.size + 1) := by rw [sizeT_app]; simp [sizeT, L_len]
 by_cases hT : T = []
 · subst hT; exact sPut0 pb ov s w hpo (by omega)
 · by_cases hl : lastT T = [59]
   · exact sPut1 pb T ov s w hpo hT hl (by omega)
   · exact sPut2 pb T ov s w hpo hT hl (by omega)
end Go.Proofs.YtddlokkejglckaaGreatDoor
