/- Words, names and operators: what the specification's and the program's small functions answer. Names: what the specification's l02Run, l02Name and l03Name answer. Operators and names: the specification's l03Group, the program's isName and isFreeName. -/
import Derived.Test.YtlcpmbdckmdabaaGreatDoorNDX
import Derived.Test.YtlcpmbdckmdabaaGreatDoorTS1
import Derived.Test.YtlcpmbdckmdabaaGreatDoorTI1
namespace Go.Proofs.YtlcpmbdckmdabaaGreatDoor
open Go.RowKit Nt
set_option linter.unusedVariables false
set_option maxRecDepth 100000
theorem toListL (s : ByteArray) : s.toList = L s := by rw [ByteArray.toList_eq]; rfl
theorem ret_t {s : ByteArray} {m : List UInt8} {ls : List (List UInt8)} (h : (s.toList == m) = true) (hm : ls.contains m = true) : Ending.returned (.bool true) = .returned (.bool (ls.contains (L s))) := by
  have : L s = m := by rw [← toListL]; simpa using h
  rw [this, hm]
theorem ret_f {s : ByteArray} {ls : List (List UInt8)} (h : ls.contains (L s) = false) : Ending.returned (.bool false) = .returned (.bool (ls.contains (L s))) := by rw [h]
theorem sUnary (s : ByteArray) (w : World) : Calls Tryz.prog 35 #[.string s] w fun e w' => e = .returned (.bool (unL.contains (L s))) ∧ w = w' := by
  go_enter Tryz.func35, Tryz.ntmps35
  go_wp2
  all_goals first
    | (exfalso; simp_all; done)
    | (go_ret; exact ⟨ret_t (by assumption) (by decide), rfl⟩)
    | (go_ret; exact ⟨ret_f (ls := unL) (by rw [← toListL]; simp_all [unL]), rfl⟩)
theorem iUnary (s : ByteArray) (w : World) : Calls Tryz.prog 27 #[.string s] w fun e w' => e = .returned (.bool (unL.contains (L s))) ∧ w = w' := by
  go_enter Tryz.func27, Tryz.ntmps27
  go_wp2
  all_goals first
    | (exfalso; simp_all; done)
    | (go_ret; exact ⟨ret_t (by assumption) (by decide), rfl⟩)
    | (go_ret; exact ⟨ret_f (ls := unL) (by rw [← toListL]; simp_all [unL]), rfl⟩)
set_option maxHeartbeats 1000000 in
theorem sWord (s : ByteArray) (w : World) : Calls Tryz.prog 33 #[.string s] w fun e w' => e = .returned (.bool (wordsL.contains (L s))) ∧ w = w' := by
  go_enter Tryz.func33, Tryz.ntmps33
  go_wp2
  all_goals first
    | (exfalso; simp_all; done)
    | (go_ret; exact ⟨ret_t (by assumption) (by decide), rfl⟩)
    | (go_ret; exact ⟨ret_f (ls := wordsL) (by rw [← toListL]; simp_all [wordsL]), rfl⟩)
set_option maxHeartbeats 1000000 in
theorem iWord (s : ByteArray) (w : World) : Calls Tryz.prog 38 #[.string s] w fun e w' => e = .returned (.bool (wordsL.contains (L s))) ∧ w = w' := by
  go_enter Tryz.func38, Tryz.ntmps38
  go_wp2
  all_goals first
    | (exfalso; simp_all; done)
    | (go_ret; exact ⟨ret_t (by assumption) (by decide), rfl⟩)
    | (go_ret; exact ⟨ret_f (ls := wordsL) (by rw [← toListL]; simp_all [wordsL]), rfl⟩)
end Go.Proofs.YtlcpmbdckmdabaaGreatDoor
namespace Go.Proofs.YtlcpmbdckmdabaaGreatDoor
open Go.RowKit Nt
set_option linter.unusedVariables false
set_option maxRecDepth 100000
theorem nat_beq (a b : Nat) : ((a : Int) == (b : Int)) = (a == b) := by rw [Bool.eq_iff_iff]; simp; omega
theorem sRun0 (s : ByteArray) (w : World) (hs : s.size ≤ 1000000) (h0 : 0 < s.size) (hc : Nb.letB s[0] = false) :
    Calls Tryz.prog 47 #[.string s, .int .i64 0] w fun e w' => e = .returned (.int .i64 0) ∧ w = w' := by
  have LT := hide (fun v => sLetter s[0] v)
  rw [hc] at LT
  clear hc
  go_enter Tryz.func47, Tryz.ntmps47
  go_wp2
  go_loop [5] (fun i => i = .int .i64 0) (fun i => 0)
  case atStart => rfl
  case round =>
    subst hrel
    go_wp2_with (go_at_call 64; refine (unhide LT _).mono ?_; rintro e w' ⟨rfl, rfl⟩)
    exact bodyPost_ret (v := .int .i64 0) (by simp [results, Tryz.results47, go_sem]) rfl ⟨rfl, rfl⟩
theorem sRunN (s : ByteArray) (w : World) (hs : s.size ≤ 1000000) (h0 : 0 < s.size) :
    Calls Tryz.prog 47 #[.string s, .int .i64 0] w fun e w' => e = .returned (.int .i64 (Nb.nameL (L s) : Nat)) ∧ w = w' := by
  have hl : (L s).length = s.size := L_len s
  cases hc : Nb.letB s[0] with
  | false =>
    have := Nb.nameL_none (l := L s) (a := 0) (by omega) hc
    rw [List.drop_zero] at this
    rw [this]
    exact sRun0 s w hs h0 hc
  | true =>
    have := Nb.nameL_run (l := L s) (a := 0) (by omega) hc
    rw [List.drop_zero, Nat.zero_add] at this
    rw [this]
    exact (sRun s 0 _ w hs h0 hc rfl).mono fun e w' ⟨h1, h2⟩ => ⟨h1, h2.symm⟩
theorem sName (s : ByteArray) (w : World) (hs : s.size ≤ maxLen) : Calls Tryz.prog 32 #[.string s] w fun e w' => e = .returned (.bool (nameB (L s))) ∧ w = w' := by
  have hl : (L s).length = s.size := L_len s
  unfold maxLen at hs
  unfold nameB
  rw [hl]
  by_cases h1 : s.size ≤ 24
  · by_cases h0 : s.size = 0
    · have he : L s = [] := List.eq_nil_of_length_eq_zero (by omega)
      have hn : s.toList = [] := by rw [toListL, he]
      rw [he]
      have hx : (decide (s.size ≤ 24) && !([] : List UInt8).isEmpty && (Nb.nameL [] == s.size)) = false := by simp
      rw [hx]
      clear hx
      go_enter Tryz.func32, Tryz.ntmps32
      go_wp2
      go_ret
      exact ⟨rfl, rfl⟩
    · have hne : (L s).isEmpty = false := by cases h : L s with | nil => rw [h] at hl; simp at hl; omega | cons => rfl
      have hn : s.toList.isEmpty = false := by rw [toListL]; exact hne
      have RN := hide (fun v => sRunN s v (by omega) (by omega))
      rw [hne, decide_eq_true h1]
      simp only [Bool.not_false, Bool.true_and]
      have q1 : (s.size : Int) ≤ 24 := by omega
      generalize Nb.nameL (L s) = N at *
      go_enter Tryz.func32, Tryz.ntmps32
      go_wp2_with (go_at_call 47; refine (unhide RN _).mono ?_; rintro e w' ⟨rfl, rfl⟩)
      go_ret
      exact ⟨ret_bool (nat_beq N s.size), rfl⟩
  · rw [decide_eq_false h1, Bool.false_and, Bool.false_and]
    have q1 : ¬ ((s.size : Int) ≤ 24) := by omega
    go_enter Tryz.func32, Tryz.ntmps32
    go_wp2
    go_ret
    exact ⟨rfl, rfl⟩
theorem sFree (s : ByteArray) (w : World) (hs : s.size ≤ maxLen) : Calls Tryz.prog 21 #[.string s] w fun e w' => e = .returned (.bool (freeB s)) ∧ w = w' := by
  have N := hide (fun v => sName s v hs)
  have W := hide (fun v => sWord s v)
  unfold freeB
  cases h1 : nameB (L s) with
  | false =>
    rw [h1] at N
    clear W h1
    rw [Bool.false_and]
    go_enter Tryz.func21, Tryz.ntmps21
    go_wp2_with (go_at_call 32; refine (unhide N _).mono ?_; rintro e w' ⟨rfl, rfl⟩)
    go_ret
    exact ⟨rfl, rfl⟩
  | true =>
    rw [h1] at N
    clear h1
    rw [Bool.true_and]
    generalize wordsL.contains (L s) = b at *
    go_enter Tryz.func21, Tryz.ntmps21
    go_wp2_with (first | (go_at_call 32; refine (unhide N _).mono ?_; rintro e w' ⟨rfl, rfl⟩) | (go_at_call 33; refine (unhide W _).mono ?_; rintro e w' ⟨rfl, rfl⟩))
    go_ret
    exact ⟨rfl, rfl⟩
end Go.Proofs.YtlcpmbdckmdabaaGreatDoor
namespace Go.Proofs.YtlcpmbdckmdabaaGreatDoor
open Go.RowKit Nt
set_option linter.unusedVariables false
set_option maxRecDepth 100000
theorem grp_t {s : ByteArray} {m : List UInt8} {g : Int} (h : (s.toList == m) = true) (hm : binL.contains m = true) (hg : 0 ≤ g) : decide (0 ≤ g) = binL.contains (L s) := by
  have : L s = m := by rw [← toListL]; simpa using h
  rw [this, hm, decide_eq_true hg]
set_option maxHeartbeats 1000000 in
theorem sGroup (s : ByteArray) (w : World) : Calls Tryz.prog 36 #[.string s] w fun e w' => (∃ g : Int, e = .returned (.int .i64 g) ∧ decide (0 ≤ g) = binL.contains (L s)) ∧ w = w' := by
  go_enter Tryz.func36, Tryz.ntmps36
  go_wp2
  all_goals first
    | (exfalso; simp_all; done)
    | (go_ret; exact ⟨⟨_, rfl, grp_t (by assumption) (by decide) (by decide)⟩, rfl⟩)
    | (go_ret; exact ⟨⟨_, rfl, by rw [← toListL]; simp_all [binL]⟩, rfl⟩)
theorem iIsName (s : ByteArray) (w : World) (hs : s.size ≤ maxLen) : Calls Tryz.prog 37 #[.string s] w fun e w' => e = .returned (.bool (nameB (L s))) ∧ Below w.heap.size w w' := by
  have hl : (L s).length = s.size := L_len s
  unfold maxLen at hs
  unfold nameB
  rw [hl]
  by_cases h0 : s.size = 0
  · have he : L s = [] := List.eq_nil_of_length_eq_zero (by omega)
    have hn : s.toList = [] := by rw [toListL, he]
    rw [he]
    have hx : (decide (s.size ≤ 24) && !([] : List UInt8).isEmpty && (Nb.nameL [] == s.size)) = false := by simp
    rw [hx]
    clear hx
    go_enter Tryz.func37, Tryz.ntmps37
    go_wp2
    go_ret
    exact ⟨rfl, brf _⟩
  · have hne : (L s).isEmpty = false := by cases h : L s with | nil => rw [h] at hl; simp at hl; omega | cons => rfl
    have hn : s.toList.isEmpty = false := by rw [toListL]; exact hne
    rw [hne]
    by_cases h1 : s.size ≤ 24
    · have RN := hide (fun v => iName s (Nb.nameL (L s)) v (by omega) rfl)
      rw [decide_eq_true h1]
      simp only [Bool.not_false, Bool.true_and]
      have q1 : (s.size : Int) ≤ 24 := by omega
      generalize Nb.nameL (L s) = N at *
      go_enter Tryz.func37, Tryz.ntmps37
      go_wp2_with (go_at_call 55; refine (unhide RN _).mono ?_; rintro e v1 ⟨rfl, hb1⟩)
      go_ret
      exact ⟨ret_bool (nat_beq N s.size), hb1⟩
    · rw [decide_eq_false h1, Bool.false_and, Bool.false_and]
      have q1 : ¬ ((s.size : Int) ≤ 24) := by omega
      go_enter Tryz.func37, Tryz.ntmps37
      go_wp2
      go_ret
      exact ⟨rfl, brf _⟩
theorem iFree (s : ByteArray) (w : World) (hs : s.size ≤ maxLen) : Calls Tryz.prog 25 #[.string s] w fun e w' => e = .returned (.bool (freeB s)) ∧ Below w.heap.size w w' := by
  have N := hide (fun v => iIsName s v hs)
  have W := hide (fun v => iWord s v)
  unfold freeB
  cases h1 : nameB (L s) with
  | false =>
    rw [h1] at N
    clear W h1
    rw [Bool.false_and]
    go_enter Tryz.func25, Tryz.ntmps25
    go_wp2_with (go_at_call 37; refine (unhide N _).mono ?_; rintro e v1 ⟨rfl, hb1⟩)
    go_ret
    exact ⟨rfl, hb1⟩
  | true =>
    rw [h1] at N
    clear h1
    rw [Bool.true_and]
    generalize wordsL.contains (L s) = b at *
    go_enter Tryz.func25, Tryz.ntmps25
    go_wp2_with (first | (go_at_call 37; refine (unhide N _).mono ?_; rintro e v1 ⟨rfl, hb1⟩) | (go_at_call 38; refine (unhide W _).mono ?_; rintro e w' ⟨rfl, rfl⟩))
    go_ret
    exact ⟨rfl, hb1⟩
end Go.Proofs.YtlcpmbdckmdabaaGreatDoor
