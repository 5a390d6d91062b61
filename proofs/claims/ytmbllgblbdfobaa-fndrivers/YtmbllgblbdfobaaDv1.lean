/- What Resolve answers does not hang on the order of the drivers, nor on one that drives nothing, nor on one that is there twice. -/
import Derived.Test.YtmbllgblbdfobaaI12
namespace Go.Proofs.Ytmbllgblbdfobaa
open Go.RowKit
theorem resB_comm (c d e : UInt8) : resB (resB c d) e = resB (resB c e) d := by unfold resB; grind
theorem resB_idem (c d : UInt8) : resB (resB c d) d = resB c d := by unfold resB; grind
theorem colL_perm {l l' : List ByteArray} (h : l.Perm l') (k : Nat) : colL l k = colL l' k := by
  unfold colL
  exact h.foldl_eq' (fun x _ y _ z => resB_comm z _ _) _
theorem resCols_perm {l l' : List ByteArray} (h : l.Perm l') (m : Nat) : resCols l m = resCols l' m := by
  unfold resCols
  exact List.map_congr_left fun k _ => colL_perm h k
theorem good_perm {l l' : List ByteArray} (h : l.Perm l') {m : Nat} (g : good l m) : good l' m := fun s hs => g s (h.symm.subset hs)
theorem resTop_good {ss : List ByteArray} {m : Nat} (hne : ss ≠ []) (hl : ss.length ≤ 4096) (hg : good ss m) : resTop ss = resCols ss m := by
  cases ss with
  | nil => exact absurd rfl hne
  | cons s0 t =>
    have h0 := hg s0 (by simp)
    rw [resTop_1 (by simp only [List.length_cons] at hl ⊢; omega), if_pos h0.1]
    exact resCols_eq s0 t m h0.2 (fun s hs => hg s (by simp [hs]))
theorem resTop_ne {ss : List ByteArray} (h : resTop ss ≠ []) : ss ≠ [] ∧ ss.length ≤ 4096 ∧ ∃ m, good ss m ∧ 1 ≤ m ∧ m ≤ 64 ∧ (resTop ss).length = m := by
  have hl : ¬ (ss.length = 0 ∨ 4096 < ss.length) := fun hl => h (resTop_0 hl)
  cases ss with
  | nil => exact absurd (.inl rfl) hl
  | cons s0 t =>
    have hl2 : (s0 :: t).length ≤ 4096 := by omega
    refine ⟨by simp, hl2, s0.size, ?_⟩
    rw [resTop_1 hl] at h
    by_cases hv : Vb.okV (L s0) = true
    · rw [if_pos hv] at h
      have hgt : good t s0.size := by
        by_cases hg : good t s0.size
        · exact hg
        · exact absurd (resI_bad (L s0) t s0.size (L_len s0) hg) h
      have hg : good (s0 :: t) s0.size := fun s hs => by
        rcases List.mem_cons.1 hs with rfl | hs
        · exact ⟨hv, rfl⟩
        · exact hgt s hs
      obtain ⟨v1, v2, _⟩ := (okV_iff s0).1 hv
      exact ⟨hg, v1, v2, by rw [resTop_good (by simp) hl2 hg, resCols_len]⟩
    · rw [if_neg hv] at h; exact absurd rfl h
theorem resTop_perm {l l' : List ByteArray} (p : l.Perm l') (h : resTop l ≠ []) : resTop l' = resTop l := by
  obtain ⟨h1, h2, m, hg, _⟩ := resTop_ne h
  rw [resTop_good h1 h2 hg, resTop_good (fun e => h1 (by subst e; exact p.eq_nil)) (by rw [← p.length_eq]; exact h2) (good_perm p hg), resCols_perm p]
theorem colL_twice {l : List ByteArray} {x z : ByteArray} (hx : x ∈ l) (k : Nat) (hz : (L z).getD k 0 = 122) : colL (z :: (l ++ [x])) k = colL l k := by
  obtain ⟨s, t, rfl⟩ := List.append_of_mem hx
  have p1 : (s ++ x :: t).Perm (x :: (s ++ t)) := List.perm_middle
  have p2 : (z :: ((s ++ x :: t) ++ [x])).Perm (z :: x :: x :: (s ++ t)) := by
    refine List.Perm.cons z ?_
    refine List.perm_append_comm.trans ?_
    exact List.Perm.cons x p1
  rw [colL_perm p1, colL_perm p2]
  unfold colL
  rw [List.foldl_cons, List.foldl_cons, List.foldl_cons, List.foldl_cons, hz]
  have e : resB 122 122 = 122 := by decide
  rw [e, resB_idem]
theorem resTop_twice {l : List ByteArray} {x z : ByteArray} (h : resTop l ≠ []) (hl : l.length + 2 ≤ 4096) (hx : x ∈ l) (hz : z = S (List.replicate (resTop l).length 122)) : resTop (z :: (l ++ [x])) = resTop l := by
  obtain ⟨h1, h2, m, hg, m1, m2, hm⟩ := resTop_ne h
  rw [hm] at hz
  have hLz : L z = List.replicate m 122 := by rw [hz, L_S]
  have hg2 : good (z :: (l ++ [x])) m := fun s hs => by
    rcases List.mem_cons.1 hs with rfl | hs
    · refine ⟨(okV_iff s).2 ?_, ?_⟩
      · rw [← L_len, hLz, List.length_replicate]
        exact ⟨m1, m2, by rw [List.all_eq_true]; intro c hc; rw [List.eq_of_mem_replicate hc]; rfl⟩
      · rw [← L_len, hLz, List.length_replicate]
    · rcases List.mem_append.1 hs with hs | hs
      · exact hg s hs
      · rw [List.mem_singleton] at hs; subst hs; exact hg s hx
  rw [resTop_good h1 h2 hg, resTop_good (by simp) (by simp; omega) hg2]
  unfold resCols
  refine List.map_congr_left fun k hk => ?_
  rw [List.mem_range] at hk
  exact colL_twice hx k (by rw [hLz, List.getD_eq_getElem?_getD, List.getElem?_replicate, if_pos hk]; rfl)
theorem resTop_one {s0 : ByteArray} {t : List ByteArray} (h : resTop (s0 :: t) ≠ []) : resTop [s0] = L s0 := by
  obtain ⟨h1, h2, m, hg, _⟩ := resTop_ne h
  rw [resTop_1 (by simp), if_pos (hg s0 (by simp)).1]
  rfl
end Go.Proofs.Ytmbllgblbdfobaa
