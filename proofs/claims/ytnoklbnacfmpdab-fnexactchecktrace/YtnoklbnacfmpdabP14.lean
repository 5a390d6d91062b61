/- The program's shows. -/
import Derived.Test.YtnoklbnacfmpdabK6
import Derived.Defers
namespace Go.Proofs.Ytnoklbnacfmpdab
open Go Go.RowKit Gs
set_option linter.unusedVariables false
set_option linter.unusedSimpArgs false
set_option maxRecDepth 100000
/-- What shows leaves. -/
def SHQ (B n : Nat) (w : World) (Cl : List (List Int)) (P : Prop) (s : FS) (e : Ending) (w' : World) : Prop := ∃ b, e = .returned (.bool b) ∧ (b = true ↔ P) ∧ ∃ s', s'.b = s.b ∧ AD B n w Cl s' w'
set_option maxHeartbeats 3200000 in
theorem iBack {B n : Nat} {w W wr : World} {Cl : List (List Int)} {A fp : List Int} {s r : FS} {fx : List (Nat × Array Value × TypeId)} (h : AD B n w Cl s W) (hs : SH B n w Cl A fp { s with fx := fx } r wr) (hn : n ≤ 2048) {b1 b2 : Nat} (c1 : wr.cell? ⟨b1, 0, none⟩ = some (.pointer (some ⟨s.b, 0, none⟩))) (c2 : wr.cell? ⟨b2, 0, none⟩ = some (.int .i64 (s.t.length : Int))) :
    CallsD Try.prog 26 #[.pointer (some ⟨b1, 0, none⟩), .pointer (some ⟨b2, 0, none⟩)] .returning wr fun e u' w2 => u' = .returning ∧ (e = .returned (.tuple #[]) ∧ ∃ s', s'.b = s.b ∧ AD B n w Cl s' w2) := by
  obtain ⟨x, hx⟩ := hs.fr.t
  have hx' : r.t = s.t ++ x := hx
  have hm : s.t.length ≤ r.t.length := by rw [hx', List.length_append]; omega
  have hrb : r.b = s.b := hs.fr.b
  have HTB : Hid (Calls Try.prog 27 #[.pointer (some ⟨s.b, 0, none⟩), .int .i64 (s.t.length : Int)] wr fun e w' => e = .returned (.tuple #[]) ∧ Below B w w' ∧ ∃ v', FM B n none w' { r with vs := wipe r.vs (r.t.drop s.t.length), t := r.t.take s.t.length, tv := v', fol := s.t.length }) := hide (by
    have e : (⟨s.b, 0, none⟩ : Addr) = ⟨r.b, 0, none⟩ := by rw [hrb]
    rw [e]; exact iTakeBack hs.fm hs.bl hs.ls.tr s.t.length hm hn)
  have H := hide h
  have HS := hide hs
  have htl := h.ls.tr.len
  obtain ⟨m, hmm⟩ : ∃ m, m = s.t.length := ⟨_, rfl⟩
  have HM := hide hmm
  rw [← hmm] at HTB c2 htl
  clear h hs hx hx' hm hmm
  go_enter_d Try.func26, Try.ntmps26
  go_wp2_with fail
  refine (unhide HTB).mono ?_
  rintro e w2 ⟨rfl, hb, v', hf⟩
  have HE : Hid (∃ s', s'.b = s.b ∧ AD B n w Cl s' w2) := hide (by
    rw [unhide HM] at hf
    refine ⟨_, ?_, (unhide H).back (unhide HS) hb ?_ hf⟩
    · exact hrb
    · have h1 := hf.lo.1
      have h2 := heap_lt hf.hb
      simp only at h1 h2
      omega)
  clear hb hf HTB
  go_wp2
  exact bodyPost_end (v := .tuple #[]) (by simp [results, Try.results26, go_sem]) rfl ⟨rfl, unhide HE⟩
set_option maxHeartbeats 6400000 in
theorem iShows {B n : Nat} {w W : World} {Cl : List (List Int)} {s : FS} (h : AD B n w Cl s W) (hB : B = w.heap.size) (c : List Int) (cv : Value) (hC : ∀ c ∈ Cl, Lits n c) (hc : Lits n c) (hlc : c.length ≤ 4194304) (hr : RS 1 RInt w 0 c cv) (hn : n ≤ 2048) : Calls Try.prog 19 #[.pointer (some ⟨s.b, 0, none⟩), cv] W (SHQ B n w Cl (Con Cl (c.map fun l => -l)) s) := by
  have hmf : ∀ (fn : Fn) (first cap : Array Value) (w : World), (Instr.makeFunc fn first cap).run Try.prog w = .ok (.func fn first cap) w := fun _ _ _ _ => rfl
  subst hB
  obtain ⟨ca, cc, rfl⟩ := hr.slice
  have HI := hide (ints hr)
  have q1 := h.fm.q1
  obtain ⟨ta, tc, htv⟩ := h.fm.tshape
  rw [htv] at q1
  have q1' := cell_later (bal (brf W) (.cells #[.pointer (some ⟨s.b, 0, none⟩)] 38)) q1
  have HFR := hide ((h.fm.frame #[.pointer (some ⟨s.b, 0, none⟩)] 38).frame #[.int .i64 (s.t.length : Int)] 3)
  have HBL := hide (bal (bal h.bl (.cells #[.pointer (some ⟨s.b, 0, none⟩)] 38)) (.cells #[.int .i64 (s.t.length : Int)] 3))
  have HBW := hide h.bw
  have htl := h.ls.tr.len
  have H := hide h
  have HC := hide hC
  have HL := hide hc
  clear h hr hC hc htv
  go_enter_defers Try.func19, Try.ntmps19
  go_wp2_with fail
  obtain ⟨fx, hfx⟩ : ∃ fx, fx = ((W.alloc (.cells #[.pointer (some ⟨s.b, 0, none⟩)] 38)).heap.size, #[Value.int .i64 (s.t.length : Int)], 3) :: (W.heap.size, #[Value.pointer (some ⟨s.b, 0, none⟩)], 38) :: s.fx := ⟨_, rfl⟩
  have HS0 : Hid (SH w.heap.size n w Cl (c.map fun l => -l) s.t { s with fx := fx } { s with fx := fx } ((W.alloc (.cells #[.pointer (some ⟨s.b, 0, none⟩)] 38)).alloc (.cells #[.int .i64 (s.t.length : Int)] 3))) := hide ((unhide H).shows (unhide HBL) (unhide HBL).size (by rw [hfx]; exact unhide HFR))
  have HBX : Hid (∀ (fp : List Int) (r : FS) (wr : World), SH w.heap.size n w Cl (c.map fun l => -l) fp { s with fx := fx } r wr → wr.cell? ⟨W.heap.size, 0, none⟩ = some (.pointer (some ⟨s.b, 0, none⟩)) ∧ wr.cell? ⟨W.heap.size + 1, 0, none⟩ = some (.int .i64 (s.t.length : Int))) := hide (fun fp r wr hs => by
    have e : r.fx = fx := hs.fr.fx
    have f1 := (hs.fm.fz (W.heap.size, #[Value.pointer (some ⟨s.b, 0, none⟩)], 38) (by rw [e, hfx]; simp)).at_
    have f2 := (hs.fm.fz ((W.alloc (.cells #[.pointer (some ⟨s.b, 0, none⟩)] 38)).heap.size, #[Value.int .i64 (s.t.length : Int)], 3) (by rw [e, hfx]; simp)).at_
    rw [World.size_alloc] at f2
    exact ⟨by simp only [World.cell?, f1]; rfl, by simp only [World.cell?, f2]; rfl⟩)
  clear HFR HBL HBW hfx q1 q1'
  go_loopw [16] (fun i wr => ∃ (j : Nat) (r : FS), j ≤ c.length ∧ i = .int .i64 (j : Int) ∧ SH w.heap.size n w Cl (c.map fun l => -l) s.t { s with fx := fx } r wr ∧ r.fol = s.fol ∧ ∀ l ∈ c.take j, -l ∈ r.t) (fun i wr => c.length - (intOf i).toNat)
  case atStart => exact ⟨0, _, Nat.zero_le _, rfl, unhide HS0, rfl, fun l hl => by simp at hl⟩
  case round =>
    obtain ⟨j, r, hj, rfl, hs, hfol, hall⟩ := hrel
    clear HS0
    obtain ⟨x1, x2⟩ := unhide HBX _ _ _ hs
    by_cases hjl : j < c.length
    · have hz : c[j]? = some c[j] := List.getElem?_eq_getElem hjl
      generalize c[j] = z at hz
      have hzm := List.mem_of_getElem? hz
      have hzl := unhide HL z hzm
      obtain ⟨yb, yo, rfl, z0'⟩ := unhide HI j z hz
      have z0 := cell_later hs.bl z0'
      have HA : Hid (Calls Try.prog 28 #[.pointer (some ⟨s.b, 0, none⟩), .int .i64 (-z)] wr fun e w' => ((∃ r', SH w.heap.size n w Cl (c.map fun l => -l) s.t { s with fx := fx } r' w' ∧ r'.fol = s.fol ∧ ∀ l ∈ c.take (j + 1), -l ∈ r'.t) ∧ e = .returned (.bool true)) ∨ ((SH w.heap.size n w Cl (c.map fun l => -l) s.t { s with fx := fx } r w' ∧ Con Cl (c.map fun l => -l)) ∧ e = .returned (.bool false))) := hide (by
        have e : (⟨s.b, 0, none⟩ : Addr) = ⟨r.b, 0, none⟩ := by rw [hs.fr.b]
        rw [e]
        refine (iAssume hs.fm hs.bl hs.bw hs.ls.vr hs.ls.tr hzl.neg hn).mono ?_
        have htk : c.take (j + 1) = c.take j ++ [z] := by rw [List.take_add_one, hz]; rfl
        rintro e w' (⟨hm, rfl, rfl⟩ | ⟨hm, rfl, rfl⟩ | ⟨ho, rfl, hb, hsz, v', hf⟩)
        · refine .inl ⟨⟨r, hs, hfol, fun l hl => ?_⟩, rfl⟩
          rw [htk] at hl
          rcases List.mem_append.1 hl with h1 | h1
          · exact hall l h1
          · simp at h1; subst h1; exact hm
        · exact .inr ⟨⟨hs, SH.clash (s := { s with fx := fx }) (unhide H) rfl hs (mem_negs hzm) hm⟩, rfl⟩
        · have hbw := hs.bw
          refine .inl ⟨⟨_, hs.push hzl.neg (mem_negs hzm) ho hb (by omega) hf, hfol, fun l hl => ?_⟩, rfl⟩
          rw [htk] at hl
          rcases List.mem_append.1 hl with h1 | h1
          · exact List.mem_append_left _ (hall l h1)
          · simp at h1; subst h1; exact List.mem_append_right _ (by simp))
      obtain ⟨a1, a2, a3⟩ := id hzl
      have zl1 : -2048 ≤ z := by omega
      have zl2 : z ≤ 2048 := by omega
      have j1 : (j : Int) < (c.length : Int) := by omega
      have j2 : (0 : Int) ≤ (j : Int) := by omega
      clear hs hfol hall hz hzm hzl z0' a1 a2 a3 HI HL HC
      go_wp2_with fail
      refine (unhide HA).mono ?_
      rintro e w' (⟨⟨r', hs', hfol', hall'⟩, rfl⟩ | ⟨⟨hs', hcon⟩, rfl⟩)
      · have HN := hide hs'
        have HF := hide hfol'
        have HAL := hide hall'
        clear hs' hfol' hall' HA
        go_wp2
        exact ⟨⟨j + 1, r', by omega, by go_num, unhide HN, unhide HF, unhide HAL⟩, by simp [intOf]; omega⟩
      · obtain ⟨y1, y2⟩ := unhide HBX _ _ _ hs'
        have HBK := hide (iBack (unhide H) hs' hn y1 y2)
        have HCON := hide hcon
        clear hs' hcon HA HBX
        go_wp2_with fail
        refine leaves_cons (f := 26) (args := #[.pointer (some ⟨W.heap.size, 0, none⟩), .pointer (some ⟨W.heap.size + 1, 0, none⟩)]) (by simp) (by simp [go_sem]) ?_
        refine (unhide HBK).mono ?_
        rintro e u' w'' ⟨rfl, rfl, s', hb', had⟩
        simp [Leaves, settle, results, Try.results19, go_sem]
        exact ⟨true, rfl, ⟨fun _ => unhide HCON, fun _ => rfl⟩, s', hb', had⟩
    · obtain rfl : j = c.length := by omega
      have j1 : ¬ (c.length : Int) < (c.length : Int) := by omega
      rw [List.take_of_length_le (Nat.le_refl _)] at hall
      have HFO : Hid (Calls Try.prog 29 #[.pointer (some ⟨s.b, 0, none⟩)] wr fun e w' => ∃ b, e = .returned (.bool b) ∧ ((!b) = true ↔ Con Cl (c.map fun l => -l)) ∧ ∃ r' fp, SH w.heap.size n w Cl (c.map fun l => -l) fp { s with fx := fx } r' w') := hide (by
        have e : (⟨s.b, 0, none⟩ : Addr) = ⟨r.b, 0, none⟩ := by rw [hs.fr.b]
        rw [e]
        refine (iFollow (SH.start (s := { s with fx := fx }) (unhide H) rfl rfl hfol hs) hn).mono ?_
        intro e w' hq
        obtain ⟨r', fp, b, he, hb, hsh⟩ := SH.told (s := { s with fx := fx }) (unhide H) rfl hs.fr (unhide HC) (unhide HL) hall hq
        exact ⟨b, he, hb, r', fp, hsh⟩)
      clear hs hfol hall HI HL HC
      go_wp2_with fail
      refine (unhide HFO).mono ?_
      rintro e w' ⟨b, rfl, hb, r', fp, hsh⟩
      obtain ⟨y1, y2⟩ := unhide HBX _ _ _ hsh
      have HBK := hide (iBack (unhide H) hsh hn y1 y2)
      have HCON := hide hb
      clear hsh hb HFO HBX
      go_wp2_with fail
      refine leaves_cons (f := 26) (args := #[.pointer (some ⟨W.heap.size, 0, none⟩), .pointer (some ⟨W.heap.size + 1, 0, none⟩)]) (by simp) (by simp [go_sem]) ?_
      refine (unhide HBK).mono ?_
      rintro e u' w'' ⟨rfl, rfl, s', hb', had⟩
      simp [Leaves, settle, results, Try.results19, go_sem]
      exact ⟨!b, rfl, unhide HCON, s', hb', had⟩
end Go.Proofs.Ytnoklbnacfmpdab
