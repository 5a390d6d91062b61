/- The specification's table of a leaf. -/
import Derived.Test.YtpkgcccbhfdaiaaDoorTb
import Derived.Test.YtpkgcccbhfdaiaaDoorRWa
namespace Go.Proofs.YtpkgcccbhfdaiaaDoor
open Go Go.RowKit Gs
set_option linter.unusedVariables false
set_option linter.unusedSimpArgs false
set_option maxRecDepth 100000
/-- The bits of a leaf's table, below a place. -/
def leafS (j : Nat) : Nat → Nat
  | 0 => 0
  | i + 1 => leafS j i + (((i >>> j) &&& 1) <<< i)
theorem leafS_all : ∀ k, k ≤ 4 → ∀ j, j < k → leafS j (2 ^ k) = lfT j k := by decide
theorem leafS_lt : ∀ i, i ≤ 16 → ∀ j, j < 4 → leafS j i < 65536 ∧ (((i >>> j) &&& 1) <<< i) < 131072 := by decide
theorem leafS_step : ∀ q, q < 16 → ∀ j, j < 4 → wrap64 (((leafS j q : Nat) : Int) + wrap64 (bits BinOp.and IntKind.i64 ((q : Int) / 2 ^ j) 1 * 2 ^ q)) = ((leafS j (q + 1) : Nat) : Int) := by decide +kernel
set_option maxHeartbeats 16000000 in
theorem sLeaf (j k : Nat) (hj : j < k) (hk : k ≤ 4) (W : World) : Calls Tryd.prog 59 #[.int .i64 (j : Int), .int .i64 (k : Int)] W fun e w' => e = .returned (.int .i64 ((lfT j k : Nat) : Int)) ∧ w' = W := by
  have HE := hide (leafS_all k hk j hj)
  have hp : (2 : Nat) ^ k ≤ 16 := by
    match k, hk with
    | 0, _ => decide
    | 1, _ => decide
    | 2, _ => decide
    | 3, _ => decide
    | 4, _ => decide
  obtain ⟨K, hK⟩ : ∃ K : Nat, K = 2 ^ k := ⟨_, rfl⟩
  rw [← hK] at HE hp
  have hK2 : wrap64 ((2 : Int) ^ k) = (K : Int) := by
    have e : (2 : Int) ^ k = (K : Int) := by rw [hK]; simp
    rw [e]; unfold wrap64; omega
  clear hK
  go_enter Tryd.func59, Tryd.ntmps59
  go_wp2_with fail
  go_loopw [5, 6] (fun t i wr => ∃ q : Nat, q ≤ K ∧ i = .int .i64 q ∧ t = .int .i64 ((leafS j q : Nat) : Int) ∧ wr = W) (fun t i wr => K - (intOf i).toNat)
  case atStart => exact ⟨0, Nat.zero_le _, rfl, rfl, rfl⟩
  case round =>
    obtain ⟨q, hq, rfl, rfl, rfl⟩ := hrel
    by_cases hlt : q < K
    · go_wp2_with fail
      exact ⟨⟨q + 1, by omega, by go_num, by rw [leafS_step q (by omega) j (by omega)], trivial⟩, by simp [intOf]; omega⟩
    · obtain rfl : q = K := by omega
      have hd : ¬ q < q := hlt
      go_wp2_with fail
      exact bodyPost_ret (v := .int .i64 ((leafS j q : Nat) : Int)) (by simp [results, Tryd.results59, go_sem]) rfl ⟨by rw [unhide HE], rfl⟩
end Go.Proofs.YtpkgcccbhfdaiaaDoor
namespace Go.Proofs.YtpkgcccbhfdaiaaDoor
open Go Go.RowKit Gs
set_option linter.unusedVariables false
set_option linter.unusedSimpArgs false
set_option maxRecDepth 100000
/-- The state of an evaluation: what is remembered is right as long as no way was bad. -/
structure Ev (b gm n : Nat) (s3v lv : Value) (first : Nat) (bad : Bool) (k : Nat) (R : List (Option Nat)) (W : World) : Prop where
  c3 : W.cell? ⟨b, 3, none⟩ = some s3v
  c6 : W.cell? ⟨b, 6, none⟩ = some (.int .i64 (first : Int))
  c7 : W.cell? ⟨b, 7, none⟩ = some lv
  c8 : W.cell? ⟨b, 8, none⟩ = some (.slice (some ⟨gm, 0, none⟩) n n)
  c9 : W.cell? ⟨b, 9, none⟩ = some (.bool bad)
  f9 : W.frozen? ⟨b, 9, none⟩ = false
  memo : ∀ i, i < n → ∃ m : Nat, W.cell? ⟨gm, i, none⟩ = some (.int .i64 (m : Int)) ∧ W.frozen? ⟨gm, i, none⟩ = false ∧ m ≤ tmask k + 1 ∧ (bad = false → 0 < m → R[i]? = some (some (m - 1)))
section
variable {b gm n first k : Nat} {s3v lv : Value} {bad : Bool} {R : List (Option Nat)} {W V : World}
theorem Ev.later (h : Ev b gm n s3v lv first bad k R W) (hb : Below W.heap.size W V) : Ev b gm n s3v lv first bad k R V :=
  ⟨cell_later hb h.c3, cell_later hb h.c6, cell_later hb h.c7, cell_later hb h.c8, cell_later hb h.c9, frozen_later hb h.c9 h.f9, fun i hi => by
    obtain ⟨m, h1, h2, h3, h4⟩ := h.memo i hi
    exact ⟨m, cell_later hb h1, frozen_later hb h1 h2, h3, h4⟩⟩
theorem Ev.setBad (hd : b ≠ gm) (h : Ev b gm n s3v lv first bad k R W) : Ev b gm n s3v lv first true k R (W.setCell ⟨b, 9, none⟩ (.bool true)) :=
  ⟨otherCell _ _ _ _ h.c3 (.inr (by decide)), otherCell _ _ _ _ h.c6 (.inr (by decide)), otherCell _ _ _ _ h.c7 (.inr (by decide)), otherCell _ _ _ _ h.c8 (.inr (by decide)), sameCell _ _ _ _ h.c9, by rw [frozSet]; exact h.f9, fun i hi => by
    obtain ⟨m, h1, h2, h3, h4⟩ := h.memo i hi
    exact ⟨m, otherCell _ _ _ _ h1 (.inl (Ne.symm hd)), by rw [frozSet]; exact h2, h3, fun e => by cases e⟩⟩
theorem Ev.put (hd : b ≠ gm) {v t : Nat} (h : Ev b gm n s3v lv first bad k R W) (hv : v < n) (ht : t ≤ tmask k) (hR : bad = false → R[v]? = some (some t)) : Ev b gm n s3v lv first bad k R (W.setCell ⟨gm, v, none⟩ (.int .i64 ((t : Int) + 1))) :=
  ⟨otherCell _ _ _ _ h.c3 (.inl hd), otherCell _ _ _ _ h.c6 (.inl hd), otherCell _ _ _ _ h.c7 (.inl hd), otherCell _ _ _ _ h.c8 (.inl hd), otherCell _ _ _ _ h.c9 (.inl hd), by rw [frozSet]; exact h.f9, fun i hi => by
    by_cases e : i = v
    · subst e
      obtain ⟨m, h1, h2, h3, h4⟩ := h.memo i hi
      exact ⟨t + 1, sameCell _ _ _ _ h1, by rw [frozSet]; exact h2, by omega, fun hb _ => by simpa using hR hb⟩
    · obtain ⟨m, h1, h2, h3, h4⟩ := h.memo i hi
      exact ⟨m, otherCell _ _ _ _ h1 (.inr e), by rw [frozSet]; exact h2, h3, h4⟩⟩
end
/-- What a call gives. -/
def EvP (b gm n : Nat) (s3v lv : Value) (first k : Nat) (R : List (Option Nat)) (v : Nat) (bad : Bool) (W : World) (r : Nat) (w' : World) : Prop := ∃ bad' : Bool, r ≤ tmask k ∧ Ev b gm n s3v lv first bad' k R w' ∧ FS (fun q => q = gm ∨ q = b) W w' ∧ (bad = true → bad' = true) ∧ (bad' = false → R[v]? = some (some r)) ∧ (bad' = true → bad = true ∨ R[v]? = some none)
def EvC (b gm n : Nat) (s3v lv : Value) (x : Aig) (ls : List Int) (W0 : World) (v : Nat) : Prop := ∀ bad W, Ev b gm n s3v lv (firstN x) bad ls.length (allT x ls) W → Below W0.heap.size W0 W → Calls Tryd.prog 41 #[.pointer (some ⟨b, 0, none⟩), .int .i64 (v : Int)] W fun e w' => ∃ r : Nat, e = .returned (.int .i64 (r : Int)) ∧ EvP b gm n s3v lv (firstN x) ls.length (allT x ls) v bad W r w'
theorem tmask_neg {k t : Nat} (h : t ≤ tmask k) : negT k t ≤ tmask k := by unfold negT; omega
/-- The literal's table as the specification computes it. -/
def evL (k : Nat) (z : Int) (r : Nat) : Nat := if z % 2 = 1 then negT k r else r
theorem evL_le {k : Nat} {z : Int} {r : Nat} (h : r ≤ tmask k) : evL k z r ≤ tmask k := by
  unfold evL; split
  · exact tmask_neg h
  · exact h
theorem EvP.and {b gm n first : Nat} {s3v lv : Value} {ls : List Int} {R : List (Option Nat)} {v r1 r2 : Nat} {bad : Bool} {W W1 W2 W3 : World} {a : AndG} (hk : ls.length ≤ 4) (hd : b ≠ gm) (hv : v < n) (hR : R[v]? = some (andT ls.length R a)) (hF : FS (fun q => q = gm ∨ q = b) W W1)
    {bad1 : Bool} (l1 : r1 ≤ tmask ls.length) (f1 : FS (fun q => q = gm ∨ q = b) W1 W2) (m1 : bad = true → bad1 = true) (g1 : bad1 = false → R[(a.a / 2).toNat]? = some (some r1)) (n1 : bad1 = true → bad = true ∨ R[(a.a / 2).toNat]? = some none) (h2 : EvP b gm n s3v lv first ls.length R (a.b / 2).toNat bad1 W2 r2 W3) :
    EvP b gm n s3v lv first ls.length R v bad W (evL ls.length a.a r1 &&& evL ls.length a.b r2) (W3.setCell ⟨gm, v, none⟩ (.int .i64 (((evL ls.length a.a r1 &&& evL ls.length a.b r2 : Nat) : Int) + 1))) := by
  obtain ⟨bad2, l2, e2, f2, m2, g2, n2⟩ := h2
  have hle : evL ls.length a.a r1 &&& evL ls.length a.b r2 ≤ tmask ls.length := and_le (evL_le l1)
  have hok : bad2 = false → R[v]? = some (some (evL ls.length a.a r1 &&& evL ls.length a.b r2)) := fun hb => by
    have hb1 : bad1 = false := by
      cases e : bad1 with
      | false => rfl
      | true => rw [m2 e] at hb; cases hb
    rw [hR, andT_some (p := evL ls.length a.a r1) (q := evL ls.length a.b r2) (by rw [litT_of (g1 hb1)]; rfl) (by rw [litT_of (g2 hb)]; rfl)]
  refine ⟨bad2, hle, e2.put hd hv hle hok, hF.trans (f1.trans (f2.trans (FS.set (.inl rfl) _ _ _))), fun h => m2 (m1 h), hok, fun h => ?_⟩
  rcases n2 h with h | h
  · rcases n1 h with h | h
    · exact .inl h
    · exact .inr (by rw [hR, andT_none (.inl (by rw [litT_of h]; rfl))])
  · exact .inr (by rw [hR, andT_none (.inr (by rw [litT_of h]; rfl))])
end Go.Proofs.YtpkgcccbhfdaiaaDoor
namespace Go.Proofs.YtpkgcccbhfdaiaaDoor
open Go Go.RowKit Gs
set_option linter.unusedVariables false
set_option linter.unusedSimpArgs false
set_option maxRecDepth 100000
theorem leafOf_none {ls : List Int} {v : Nat} (h : ∀ q, q < ls.length → ls[q]? ≠ some (v : Int)) : leafOf ls v = none := by
  unfold leafOf
  rw [List.findIdx?_eq_none_iff.2]
  · rfl
  · intro l hl
    obtain ⟨i, hi, e⟩ := List.getElem_of_mem hl
    have := h i hi
    rw [List.getElem?_eq_getElem hi, e] at this
    rw [beq_eq_false_iff_ne]
    intro e2
    exact this (by rw [e2])
set_option maxHeartbeats 64000000 in
theorem ev_step {b gm n c3 : Nat} {s3 : Option Addr} {lv : Value} {x : Aig} {ls : List Int} {W0 : World} {N : Nat} (hk : ls.length ≤ 4) (hd : b ≠ gm) (hS0 : ∀ i, (i = gm ∨ i = b) → W0.heap.size ≤ i) (hN : N = firstN x + x.ands.length) (hnN : n ≤ N) (hnb : N ≤ 1048576) (hao : AO (firstN x) x.ands) (hasc : ascT N 0 ls = true) (hls : RS 1 RInt W0 0 ls lv)
    (hcs : ∀ (i : Nat) a, x.ands[i]? = some a → ∃ b o, s3 = some ⟨b, o, none⟩ ∧ W0.cell? ⟨b, o + i * 2, none⟩ = some (.int .i64 a.a) ∧ W0.cell? ⟨b, o + i * 2 + 1, none⟩ = some (.int .i64 a.b)) (v : Nat) (hv : v < n) (ih : ∀ u, u < v → EvC b gm n (.slice s3 x.ands.length c3) lv x ls W0 u) : EvC b gm n (.slice s3 x.ands.length c3) lv x ls W0 v := by
  intro bad W hE hB
  obtain ⟨la, lc, hlv⟩ := hls.slice
  subst hlv
  have c7 := hE.c7
  have HLC : Hid (∀ (j : Nat) l, ls[j]? = some l → ∃ bb oo, la = some ⟨bb, oo, none⟩ ∧ W.cell? ⟨bb, oo + j, none⟩ = some (.int .i64 l)) := hide (fun j l hx => by
    rcases hls.open with ⟨e, _⟩ | ⟨bb, oo, c', hv', _, _, _, he⟩
    · rw [e] at hx; simp at hx
    · injection hv' with e1 e2 e3
      obtain ⟨u, hu, hat, hux⟩ := he j _ hx
      subst hux
      exact ⟨bb, oo, e1, cell_later hB (by simpa using hat.get (j := 0) rfl)⟩)
  have HE := hide hE
  have HB := hide hB
  have HD := hide hd
  have HS0 := hide hS0
  have HAO := hide hao
  have HAS := hide hasc
  have HCS := hide hcs
  have HIH := hide ih
  have HNN := hide (And.intro hN (And.intro hnN hnb))
  have HV := hide hv
  clear hE hB hd hS0 hao hasc hcs ih hls hN hnN hnb hv
  go_enter Tryd.func41, Tryd.ntmps41
  go_wp2_with fail
  go_loopw [5] (fun i wr => ∃ j : Nat, j ≤ ls.length ∧ i = .int .i64 j ∧ (∀ q, q < j → ls[q]? ≠ some (v : Int)) ∧ wr = W) (fun i wr => ls.length - (intOf i).toNat)
  case atStart => exact ⟨0, Nat.zero_le _, rfl, fun q hq => by omega, rfl⟩
  case round =>
    obtain ⟨j, hj, rfl, hno, rfl⟩ := hrel
    by_cases hlt : j < ls.length
    · have hx : ls[j]? = some ls[j] := List.getElem?_eq_getElem hlt
      generalize ls[j] = l at hx
      obtain ⟨bb, oo, hla, k0⟩ := unhide HLC j l hx
      subst hla
      have i1 : (j : Int) < (ls.length : Int) := by omega
      have i3 : (0 : Int) ≤ (j : Int) := by omega
      by_cases hl : l = (v : Int)
      · subst hl
        have HR : Hid ((allT x ls)[v]? = some (some (lfT j ls.length))) := hide (allT_leaf (unhide HAO) (by have := unhide HNN; have := unhide HV; omega) (by have := leafOf_at (unhide HAS) hx; simpa using this))
        have HLF := hide (fun V => sLeaf j ls.length hlt hk V)
        clear hno hx HLC HIH HCS HAO HAS HS0
        go_wp2_with fail
        refine (unhide HLF _).mono ?_
        rintro e W3 ⟨rfl, hW3⟩
        have hW4 := hW3.symm
        clear hW3
        subst hW4
        go_wp2_with fail
        exact bodyPost_ret (v := .int .i64 ((lfT j ls.length : Nat) : Int)) (by simp [results, Tryd.results41, go_sem]) rfl ⟨_, rfl, bad, lfT_le _ _, unhide HE, FS.refl _ _, fun h => h, fun _ => unhide HR, fun h => .inl h⟩
      · have hne : (l == (v : Int)) = false := beq_eq_false_iff_ne.2 hl
        have HNO : Hid (∀ q, q < j + 1 → ls[q]? ≠ some (v : Int)) := hide (fun q hq => by
          by_cases e : q = j
          · subst e; rw [hx]; intro h; injection h with h; exact hl h
          · exact hno q (by omega))
        clear hno hx hl
        go_wp2_with fail
        go_roundw
        case rel => exact ⟨j + 1, by omega, by go_num, unhide HNO, by simp⟩
        case measure => simp [intOf]; omega
    · obtain rfl : j = ls.length := by omega
      have HLF := hide (leafOf_none hno)
      have HK := hide hk
      clear hno HLC hj hk
      obtain ⟨d1, d2, d3⟩ := unhide HNN
      have hvn := unhide HV
      by_cases h0 : v = 0
      · subst h0
        have HR : Hid ((allT x ls)[0]? = some (some 0)) := hide (by rw [allT_first (by unfold firstN; omega) (unhide HLF)]; rfl)
        clear d1 d2 d3 hvn
        go_wp2_with fail
        exact bodyPost_ret (v := .int .i64 0) (by simp [results, Tryd.results41, go_sem]) rfl ⟨0, rfl, bad, Nat.zero_le _, unhide HE, FS.refl _ _, fun h => h, fun _ => unhide HR, fun h => .inl h⟩
      have hv0 : ((v : Int) == 0) = false := by rw [beq_eq_false_iff_ne]; omega
      have c6 := (unhide HE).c6
      by_cases hf : v < firstN x
      · have HR : Hid ((allT x ls)[v]? = some none) := hide (by rw [allT_first hf (unhide HLF), if_neg h0])
        have hfi : decide ((v : Int) < ((firstN x : Nat) : Int)) = true := decide_eq_true (by omega)
        have c9 := (unhide HE).c9
        have f9 := (unhide HE).f9
        clear d1 d2 d3 hvn h0
        go_wp2_with fail
        exact bodyPost_ret (v := .int .i64 0) (by simp [results, Tryd.results41, go_sem]) rfl ⟨0, rfl, true, Nat.zero_le _, (unhide HE).setBad (unhide HD), FS.set (.inr rfl) _ _ _, fun _ => rfl, (fun h => by cases h), fun _ => .inr (unhide HR)⟩
      have hfi : decide ((v : Int) < ((firstN x : Nat) : Int)) = false := decide_eq_false (by omega)
      have c8 := (unhide HE).c8
      obtain ⟨m, k1, k2, k3, k4⟩ := (unhide HE).memo v hvn
      have i1 : (0 : Int) ≤ (v : Int) := by omega
      have i2 : (v : Int) < (n : Int) := by omega
      by_cases hm : 0 < m
      · have HR : Hid (bad = false → (allT x ls)[v]? = some (some (m - 1))) := hide (fun h => k4 h hm)
        have hmi : decide ((m : Int) > 0) = true := decide_eq_true (by omega)
        have hml : m ≤ 65537 := by have := tmask_lt (unhide HK); omega
        have HM : Hid (m - 1 ≤ tmask ls.length) := hide (by omega)
        obtain ⟨m1, rfl⟩ : ∃ m1, m = m1 + 1 := ⟨m - 1, by omega⟩
        simp only [Nat.add_sub_cancel] at HM HR
        have hw : IntKind.i64.wrap (((m1 + 1 : Nat) : Int) - 1) = (m1 : Int) := by rw [IntKind.wrap_i64] <;> omega
        clear d1 d2 d3 hvn h0 k4 k3 k2
        go_wp2_with fail
        exact bodyPost_ret (v := .int .i64 (m1 : Int)) (by simp [results, Tryd.results41, go_sem]) rfl ⟨m1, rfl, bad, unhide HM, unhide HE, FS.refl _ _, fun h => h, unhide HR, fun h => .inl h⟩
      · have hmi : decide ((m : Int) > 0) = false := decide_eq_false (by omega)
        obtain ⟨i, hvi⟩ : ∃ i, v = firstN x + i := ⟨v - firstN x, by omega⟩
        have hil : i < x.ands.length := by omega
        have hxi : x.ands[i]? = some x.ands[i] := List.getElem?_eq_getElem hil
        generalize x.ands[i] = a at hxi
        obtain ⟨ab, ao, hs3, ca, cb⟩ := unhide HCS i a hxi
        subst hs3
        obtain ⟨l1, l2, l5, l6⟩ := unhide HAO i a hxi
        obtain ⟨na, hna⟩ : ∃ na : Nat, a.a = na := ⟨a.a.toNat, by omega⟩
        obtain ⟨nb, hnb⟩ : ∃ nb : Nat, a.b = nb := ⟨a.b.toNat, by omega⟩
        have ea : (a.a / 2).toNat = na / 2 := by rw [hna]; omega
        have eb : (a.b / 2).toNat = nb / 2 := by rw [hnb]; omega
        have HCA := hide (unhide HIH (na / 2) (by omega))
        have HCB := hide (unhide HIH (nb / 2) (by omega))
        have HR : Hid ((allT x ls)[v]? = some (andT ls.length (allT x ls) a)) := hide (by rw [hvi]; exact allT_and (unhide HAO) hxi (by rw [← hvi]; exact unhide HLF))
        have HZ := hide (And.intro ca cb)
        rw [hna, hnb] at HZ
        have HNA := hide (And.intro hna hnb)
        have HEA := hide (And.intro ea eb)
        have hal : x.ands.length ≤ 1048576 := by omega
        have hna3 : na ≤ 4194304 := by omega
        have hnb3 : nb ≤ 4194304 := by omega
        have c3' := (unhide HE).c3
        clear hxi ca cb l1 l2 l5 l6 HCS HIH HAO hna hnb ea eb d1 d2 d3
        have HVI := hide hvi
        clear hvi k4 k3 h0
        go_wp2_with fail
        have HC3 := hide c3'
        have HC6 := hide c6
        refine sAnd (za := (na : Int)) (zb := (nb : Int)) HC3 HC6 hil hal (hide (cell_later (unhide HB) (unhide HZ).1)) (hide (cell_later (unhide HB) (unhide HZ).2)) _ rfl rfl (by rw [← unhide HVI]; rfl) ?_
        intro a1 V M hnt hdf hkeep h6 hMs hca hcb hbV
        obtain ⟨us, rfl, hus⟩ := putAll_of [61, 62, 63, 64, 65, 66, 67, 68, 69, 70, 71, 72, 73, 6] hnt hdf hkeep
        have hu6 : us 6 = .pointer (some ⟨M, 0, none⟩) := (hus 6).trans h6
        clear hnt hdf hkeep hus h6
        simp only [putAll, List.foldl, Act.put, List.setIfInBounds_toArray, List.set_cons_zero, List.set_cons_succ, hu6]
        clear hu6
        generalize us 61 = y61 at *
        generalize us 62 = y62 at *
        generalize us 63 = y63 at *
        generalize us 64 = y64 at *
        generalize us 65 = y65 at *
        generalize us 66 = y66 at *
        generalize us 67 = y67 at *
        generalize us 68 = y68 at *
        generalize us 69 = y69 at *
        generalize us 70 = y70 at *
        generalize us 71 = y71 at *
        generalize us 72 = y72 at *
        generalize us 73 = y73 at *
        have HEV := hide ((unhide HE).later hbV)
        have HBV := hide (btr (unhide HB) hbV)
        have HFV : Hid (FS (fun q => q = gm ∨ q = b) wr V) := hide (FS.of hbV)
        have HM : Hid (¬ (M = gm ∨ M = b)) := hide (by
          have q1 := World.block_lt_of_cell? _ _ k1
          have q2 := World.block_lt_of_cell? _ _ c6
          simp only at q1 q2
          omega)
        have HMC := hide (And.intro hca hcb)
        clear hbV hcb hMs HC3 HC6 k1 k2 c3' c6 c7 c8 HE
        have hdv : (na : Int) / 2 = ((na / 2 : Nat) : Int) := by omega
        have hdw : (nb : Int) / 2 = ((nb / 2 : Nat) : Int) := by omega
        have HDV := hide (And.intro hdv hdw)
        clear hdv hdw
        go_wp2_with fail
        rw [(unhide HDV).1]
        refine (unhide HCA bad V (unhide HEV) (unhide HBV)).mono ?_
        rintro e V2 ⟨r1, rfl, bad1, t1, t2, t3, t4, t5, t6⟩
        have hca := t3.cell (unhide HM) (unhide HMC).1
        have hcb := t3.cell (unhide HM) (unhide HMC).2
        have HB2 := hide (FS.below (unhide HBV) t3 (unhide HS0) (unhide HBV).size)
        have HT1 := hide (And.intro t1 (And.intro t3 (And.intro t4 (And.intro t5 t6))))
        have HE2 := hide t2
        have hr1 := t1
        clear t1 t2 t3 t4 t5 t6 HEV HBV
        go_wp2_with fail
        rw [(unhide HDV).2]
        refine (unhide HCB bad1 V2 (unhide HE2) (unhide HB2)).mono ?_
        rintro e V3 ⟨r2, rfl, hP2⟩
        have HP2 := hide hP2
        obtain ⟨bad2, t1, t2, t3, t4, t5, t6⟩ := hP2
        have hca := t3.cell (unhide HM) hca
        have hcb := t3.cell (unhide HM) hcb
        have c7 := t2.c7
        have c8 := t2.c8
        obtain ⟨m2, k1, k2, _, _⟩ := t2.memo v hvn
        have HPA : Hid (EvP b gm n (.slice (some ⟨ab, ao, none⟩) x.ands.length c3) (.slice la ls.length lc) (firstN x) ls.length (allT x ls) v bad wr (evL ls.length a.a r1 &&& evL ls.length a.b r2) (V3.setCell ⟨gm, v, none⟩ (.int .i64 (((evL ls.length a.a r1 &&& evL ls.length a.b r2 : Nat) : Int) + 1)))) := hide (EvP.and (unhide HK) (unhide HD) hvn (unhide HR) (unhide HFV) hr1 (unhide HT1).2.1 (unhide HT1).2.2.1 (by rw [(unhide HEA).1]; exact (unhide HT1).2.2.2.1) (by rw [(unhide HEA).1]; exact (unhide HT1).2.2.2.2) (by rw [(unhide HEA).2]; exact unhide HP2))
        rw [(unhide HNA).1, (unhide HNA).2] at HPA
        have hkm := tmask_lt (unhide HK)
        have hr2 := t1
        have HMK := hide (fun V => sMask ls.length (unhide HK) V)
        have hp3 : evL ls.length (na : Int) r1 < 65536 := by have := evL_le (z := (na : Int)) hr1; omega
        have hq3 : evL ls.length (nb : Int) r2 < 65536 := by have := evL_le (z := (nb : Int)) hr2; omega
        have hand := i64_and_nat _ _ hp3 hq3
        have HX1 := hide (neg_s (unhide HK) hr1)
        have HX2 := hide (neg_s (unhide HK) hr2)
        have HL1 : Hid (∀ z : Int, z % 2 = 1 → evL ls.length z r1 = negT ls.length r1) := hide (fun z h => by unfold evL; rw [if_pos h])
        have HL1' : Hid (∀ z : Int, ¬ z % 2 = 1 → evL ls.length z r1 = r1) := hide (fun z h => by unfold evL; rw [if_neg h])
        have HL2 : Hid (∀ z : Int, z % 2 = 1 → evL ls.length z r2 = negT ls.length r2) := hide (fun z h => by unfold evL; rw [if_pos h])
        have HL2' : Hid (∀ z : Int, ¬ z % 2 = 1 → evL ls.length z r2 = r2) := hide (fun z h => by unfold evL; rw [if_neg h])
        have HPQ : Hid (evL ls.length (na : Int) r1 &&& evL ls.length (nb : Int) r2 < 65536) := hide (Nat.lt_of_le_of_lt Nat.and_le_left hp3)
        clear t1 t2 t3 t4 t5 t6 HP2 HT1 HE2 HB2 HCA HCB HR HFV HLF hkm
        rcases Nat.mod_two_eq_zero_or_one na with ha | ha <;> rcases Nat.mod_two_eq_zero_or_one nb with hb | hb
        · have ea : (na : Int) % 2 = 0 := by omega
          have eb : (nb : Int) % 2 = 0 := by omega
          rw [unhide HL1' (na : Int) (by omega), unhide HL2' (nb : Int) (by omega)] at HPA HPQ hand
          clear ha hb hp3 hq3
          generalize hpq : r1 &&& r2 = pq at *
          have hpl := unhide HPQ
          clear hpq
          go_wp2_with (first | (go_at_call 19; refine (unhide HMK _).mono ?_; rintro e W1 ⟨rfl, hW1⟩; have hW2 := hW1.symm; clear hW1; subst hW2))
          exact bodyPost_ret (v := .int .i64 (pq : Int)) (by simp [results, Tryd.results41, go_sem]) rfl ⟨pq, rfl, unhide HPA⟩
        · have ea : (na : Int) % 2 = 0 := by omega
          have eb : (nb : Int) % 2 = 1 := by omega
          rw [unhide HL1' (na : Int) (by omega), unhide HL2 (nb : Int) (by omega)] at HPA HPQ hand
          have hx2 := unhide HX2
          clear ha hb hp3 hq3
          generalize hpq : r1 &&& negT ls.length r2 = pq at *
          have hpl := unhide HPQ
          clear hpq
          generalize negT ls.length r2 = nr2 at *
          go_wp2_with (first | (go_at_call 19; refine (unhide HMK _).mono ?_; rintro e W1 ⟨rfl, hW1⟩; have hW2 := hW1.symm; clear hW1; subst hW2))
          exact bodyPost_ret (v := .int .i64 (pq : Int)) (by simp [results, Tryd.results41, go_sem]) rfl ⟨pq, rfl, unhide HPA⟩
        · have ea : (na : Int) % 2 = 1 := by omega
          have eb : (nb : Int) % 2 = 0 := by omega
          rw [unhide HL1 (na : Int) (by omega), unhide HL2' (nb : Int) (by omega)] at HPA HPQ hand
          have hx1 := unhide HX1
          clear ha hb hp3 hq3
          generalize hpq : negT ls.length r1 &&& r2 = pq at *
          have hpl := unhide HPQ
          clear hpq
          generalize negT ls.length r1 = nr1 at *
          go_wp2_with (first | (go_at_call 19; refine (unhide HMK _).mono ?_; rintro e W1 ⟨rfl, hW1⟩; have hW2 := hW1.symm; clear hW1; subst hW2))
          exact bodyPost_ret (v := .int .i64 (pq : Int)) (by simp [results, Tryd.results41, go_sem]) rfl ⟨pq, rfl, unhide HPA⟩
        · have ea : (na : Int) % 2 = 1 := by omega
          have eb : (nb : Int) % 2 = 1 := by omega
          rw [unhide HL1 (na : Int) (by omega), unhide HL2 (nb : Int) (by omega)] at HPA HPQ hand
          have hx1 := unhide HX1
          have hx2 := unhide HX2
          clear ha hb hp3 hq3
          generalize hpq : negT ls.length r1 &&& negT ls.length r2 = pq at *
          have hpl := unhide HPQ
          clear hpq
          generalize negT ls.length r1 = nr1 at *
          generalize negT ls.length r2 = nr2 at *
          go_wp2_with (first | (go_at_call 19; refine (unhide HMK _).mono ?_; rintro e W1 ⟨rfl, hW1⟩; have hW2 := hW1.symm; clear hW1; subst hW2))
          exact bodyPost_ret (v := .int .i64 (pq : Int)) (by simp [results, Tryd.results41, go_sem]) rfl ⟨pq, rfl, unhide HPA⟩
theorem sEval {b gm n c3 : Nat} {s3 : Option Addr} {lv : Value} {x : Aig} {ls : List Int} {W0 : World} {N : Nat} (hk : ls.length ≤ 4) (hd : b ≠ gm) (hS0 : ∀ i, (i = gm ∨ i = b) → W0.heap.size ≤ i) (hN : N = firstN x + x.ands.length) (hnN : n ≤ N) (hnb : N ≤ 1048576) (hao : AO (firstN x) x.ands) (hasc : ascT N 0 ls = true) (hls : RS 1 RInt W0 0 ls lv)
    (hcs : ∀ (i : Nat) a, x.ands[i]? = some a → ∃ b o, s3 = some ⟨b, o, none⟩ ∧ W0.cell? ⟨b, o + i * 2, none⟩ = some (.int .i64 a.a) ∧ W0.cell? ⟨b, o + i * 2 + 1, none⟩ = some (.int .i64 a.b)) : ∀ v, v < n → EvC b gm n (.slice s3 x.ands.length c3) lv x ls W0 v := by
  intro v
  induction v using Nat.strongRecOn with
  | ind v ih =>
    intro hv
    exact ev_step hk hd hS0 hN hnN hnb hao hasc hls hcs v hv (fun u hu => ih u hu (by omega))
end Go.Proofs.YtpkgcccbhfdaiaaDoor
namespace Go.Proofs.YtpkgcccbhfdaiaaDoor
open Go Go.RowKit Gs
set_option linter.unusedVariables false
set_option linter.unusedSimpArgs false
set_option maxRecDepth 100000
/-- The row of what is remembered, new. -/
def Mk0 (B n g : Nat) (w : World) : Prop := B < g ∧ ∀ i, i < n → w.cell? ⟨g, i, none⟩ = some (.int .i64 0) ∧ w.frozen? ⟨g, i, none⟩ = false
theorem Mk0.later {B n g : Nat} {w w' : World} (h : Mk0 B n g w) (hb : Below w.heap.size w w') : Mk0 B n g w' := ⟨h.1, fun i hi => ⟨cell_later hb (h.2 i hi).1, frozen_later hb (h.2 i hi).1 (h.2 i hi).2⟩⟩
def FT1 (s0 s1 s2 s3 s4 s5 la : Option Addr) (l0 l1 l2 l3 l4 l5 c0 c1 c2 c3 c4 c5 lc ln B FA n v k : Nat) (R : List (Option Nat)) : Nat → World → Value → Prop
  | 0, _, u => u = .agg #[.slice s0 l0 c0, .slice s1 l1 c1, .slice s2 l2 c2, .slice s3 l3 c3, .slice s4 l4 c4, .slice s5 l5 c5]
  | 1, _, u => u = .pointer (some ⟨B, 0, none⟩)
  | 2, _, u => u = .slice s0 l0 c0
  | 3, _, u => u = .int .i64 (l0 : Int)
  | 4, _, u => u = .int .i64 ((1 : Int) + (l0 : Int))
  | 5, _, u => u = .pointer (some ⟨B, 2, none⟩)
  | 6, _, u => u = .slice s2 l2 c2
  | 7, _, u => u = .int .i64 (l2 : Int)
  | 8, _, u => u = .int .i64 (FA : Int)
  | 9, _, u => u = .slice la ln lc
  | 10, _, u => u = .int .i64 (v : Int)
  | 11, _, u => u = .int .i64 (n : Int)
  | 12, w, u => ∃ g, u = .slice (some ⟨g, 0, none⟩) n n ∧ Mk0 B n g w
  | 13, w, u => ∃ g, u = .agg #[.slice s0 l0 c0, .slice s1 l1 c1, .slice s2 l2 c2, .slice s3 l3 c3, .slice s4 l4 c4, .slice s5 l5 c5, .int .i64 (FA : Int), .slice la ln lc, .slice (some ⟨g, 0, none⟩) n n, .bool false] ∧ Mk0 B n g w
  | 14, w, u => ∃ b g, u = .pointer (some ⟨b, 0, none⟩) ∧ b ≠ g ∧ B < b ∧ B < g ∧ Ev b g n (.slice s3 l3 c3) (.slice la ln lc) FA false k R w
  | 15, w, u => ∃ b g, u = .pointer (some ⟨b, 0, none⟩) ∧ b ≠ g ∧ B < b ∧ B < g ∧ Ev b g n (.slice s3 l3 c3) (.slice la ln lc) FA false k R w
  | _, _, _ => True
theorem FT1.lasts (s0 s1 s2 s3 s4 s5 la : Option Addr) (l0 l1 l2 l3 l4 l5 c0 c1 c2 c3 c4 c5 lc ln B FA n v k : Nat) (R : List (Option Nat)) : Lasts (FT1 s0 s1 s2 s3 s4 s5 la l0 l1 l2 l3 l4 l5 c0 c1 c2 c3 c4 c5 lc ln B FA n v k R) := by
  intro q w w' u hb h
  match q, h with
  | 0, h => exact h
  | 1, h => exact h
  | 2, h => exact h
  | 3, h => exact h
  | 4, h => exact h
  | 5, h => exact h
  | 6, h => exact h
  | 7, h => exact h
  | 8, h => exact h
  | 9, h => exact h
  | 10, h => exact h
  | 11, h => exact h
  | 12, ⟨g, h1, h2⟩ => exact ⟨g, h1, h2.later hb⟩
  | 13, ⟨g, h1, h2⟩ => exact ⟨g, h1, h2.later hb⟩
  | 14, ⟨b, g, h1, h2, h3, h4, h5⟩ => exact ⟨b, g, h1, h2, h3, h4, h5.later hb⟩
  | 15, ⟨b, g, h1, h2, h3, h4, h5⟩ => exact ⟨b, g, h1, h2, h3, h4, h5.later hb⟩
  | _ + 16, _ => trivial
theorem Ev_box {W : World} {g n FA k B : Nat} {p0 p1 p2 p3 p4 p5 lv : Value} {R : List (Option Nat)} (h : Mk0 B n g W) (hn : 0 < n) :
    Ev W.heap.size g n p3 lv FA false k R (W.alloc (.cells #[p0, p1, p2, p3, p4, p5, .int .i64 (FA : Int), lv, .slice (some ⟨g, 0, none⟩) n n, .bool false] 80)) ∧ W.heap.size ≠ g := by
  have b3 : Below W.heap.size W (W.alloc (.cells #[p0, p1, p2, p3, p4, p5, .int .i64 (FA : Int), lv, .slice (some ⟨g, 0, none⟩) n n, .bool false] 80)) := bal (brf W) _
  refine ⟨⟨?_, ?_, ?_, ?_, ?_, ?_, fun i hi => ?_⟩, ?_⟩
  · rw [World.cell?_alloc_new]; rfl
  · rw [World.cell?_alloc_new]; rfl
  · rw [World.cell?_alloc_new]; rfl
  · rw [World.cell?_alloc_new]; rfl
  · rw [World.cell?_alloc_new]; rfl
  · exact (TP_made W #[p0, p1, p2, p3, p4, p5, .int .i64 (FA : Int), lv, .slice (some ⟨g, 0, none⟩) n n, .bool false] 80 10 rfl 9 (by decide)).2
  · have c0 := h.2 i hi
    exact ⟨0, cell_later b3 c0.1, frozen_later b3 c0.1 c0.2, Nat.zero_le _, fun _ h => by omega⟩
  · have := World.block_lt_of_cell? _ _ (h.2 0 hn).1
    simp only at this
    omega
theorem wrap_small (z : Int) (h0 : 0 ≤ z) (h : z ≤ 4294967296) : IntKind.i64.wrap z = z := by rw [IntKind.wrap_i64] <;> omega
set_option maxHeartbeats 32000000 in
theorem sTable {x : Aig} {ls : List Int} {s0 s1 s2 s3 s4 s5 la : Option Addr} {l0 l1 l2 l3 l4 l5 c0 c1 c2 c3 c4 c5 lc N v : Nat} {w : World} (hk : ls.length ≤ 4) (e0 : l0 = x.ins.length) (e2 : l2 = x.latches.length) (e3 : l3 = x.ands.length) (hN : N = firstN x + x.ands.length) (hnb : N ≤ 1048576) (hao : AO (firstN x) x.ands) (hasc : ascT N 0 ls = true) (hls : RS 1 RInt w 0 ls (.slice la ls.length lc))
    (hcs : ∀ (i : Nat) a, x.ands[i]? = some a → ∃ b o, s3 = some ⟨b, o, none⟩ ∧ w.cell? ⟨b, o + i * 2, none⟩ = some (.int .i64 a.a) ∧ w.cell? ⟨b, o + i * 2 + 1, none⟩ = some (.int .i64 a.b)) (hv : v < N) :
    Calls Tryd.prog 18 #[.agg #[.slice s0 l0 c0, .slice s1 l1 c1, .slice s2 l2 c2, .slice s3 l3 c3, .slice s4 l4 c4, .slice s5 l5 c5], .int .i64 (v : Int), .slice la ls.length lc] w fun e w' => ∃ (r : Nat) (ok : Bool), e = .returned (.tuple #[.int .i64 (r : Int), .bool ok]) ∧ r ≤ tmask ls.length ∧ (ok = true → (allT x ls)[v]? = some (some r)) ∧ (ok = false → (allT x ls)[v]? = some none) ∧ Below w.heap.size w w' := by
  obtain ⟨FA, hFA⟩ : ∃ FA : Nat, FA = 1 + l0 + l2 := ⟨_, rfl⟩
  have hfn : firstN x = FA := by rw [hFA, e0, e2]; rfl
  have hsf : (1 : Int) + (l0 : Int) + (l2 : Int) = (FA : Int) := by omega
  obtain ⟨n, hn⟩ : ∃ n : Nat, n = v + 1 := ⟨_, rfl⟩
  have hsum : (v : Int) + 1 = (n : Int) := by omega
  have hl0 : l0 ≤ 1048576 := by omega
  have hl2 : l2 ≤ 1048576 := by omega
  obtain ⟨M, hM, hmk⟩ := make_ints n (by omega)
  have hnB : n ≤ 1048576 := by omega
  have hfB : FA ≤ 2097153 := by omega
  have hwn2 : IntKind.i64.wrap (n : Int) = (n : Int) := wrap_small _ (by omega) (by omega)
  have hwf2 : IntKind.i64.wrap (FA : Int) = (FA : Int) := wrap_small _ (by omega) (by omega)
  have hw1 : IntKind.i64.wrap ((1 : Int) + (l0 : Int)) = (1 : Int) + (l0 : Int) := wrap_small _ (by omega) (by omega)
  have HEV : Hid (∀ (b gm : Nat), b ≠ gm → (∀ i, (i = gm ∨ i = b) → w.heap.size ≤ i) → EvC b gm n (.slice s3 l3 c3) (.slice la ls.length lc) x ls w v) := hide (fun b gm hd hS => by
    rw [e3]
    exact sEval hk hd hS hN (by omega) hnb hao hasc hls hcs v (by omega))
  have HC : Hid (∀ V, Below (w.alloc (.cells #[.slice s0 l0 c0, .slice s1 l1 c1, .slice s2 l2 c2, .slice s3 l3 c3, .slice s4 l4 c4, .slice s5 l5 c5] 36)).heap.size (w.alloc (.cells #[.slice s0 l0 c0, .slice s1 l1 c1, .slice s2 l2 c2, .slice s3 l3 c3, .slice s4 l4 c4, .slice s5 l5 c5] 36)) V → B6 36 w (.slice s0 l0 c0) (.slice s1 l1 c1) (.slice s2 l2 c2) (.slice s3 l3 c3) (.slice s4 l4 c4) (.slice s5 l5 c5) V) := hide (fun V h => h)
  have HM := hide hM
  have HFN := hide hfn
  clear hM hFA hn e0 e2 e3 hN hnb hao hasc hls hcs hv hfn hk
  obtain ⟨ln, hln⟩ : ∃ ln, ln = ls.length := ⟨_, rfl⟩
  have HLN := hide hln
  rw [← hln]
  rw [← hln] at HEV
  clear hln
  obtain ⟨W1, hW1⟩ : ∃ W1, W1 = w.alloc (.cells #[.slice s0 l0 c0, .slice s1 l1 c1, .slice s2 l2 c2, .slice s3 l3 c3, .slice s4 l4 c4, .slice s5 l5 c5] 36) := ⟨_, rfl⟩
  rw [← hW1] at HC
  have HW1 := hide hW1
  clear hW1
  have HX1 := hide (unhide HC W1 (brf W1))
  have hlt : w.heap.size < W1.heap.size := World.block_lt_of_cell? _ _ (unhide HX1).get.1
  have HLT : Hid (∀ V, B6 36 w (.slice s0 l0 c0) (.slice s1 l1 c1) (.slice s2 l2 c2) (.slice s3 l3 c3) (.slice s4 l4 c4) (.slice s5 l5 c5) V → w.heap.size < V.heap.size) := hide (fun V h => World.block_lt_of_cell? _ _ h.get.1)
  have HMK : Hid (∀ V, B6 36 w (.slice s0 l0 c0) (.slice s1 l1 c1) (.slice s2 l2 c2) (.slice s3 l3 c3) (.slice s4 l4 c4) (.slice s5 l5 c5) V → Mk0 w.heap.size n V.heap.size (V.alloc (.cells M 3))) := hide (fun V h => ⟨unhide HLT V h, fun i hi => by
    have hms : M.size = n := by rw [← Array.length_toList, unhide HM]; simp
    have hmg : M[i]? = some (.int .i64 0) := by rw [← Array.getElem?_toList, unhide HM, List.getElem?_replicate, if_pos hi]
    exact ⟨by rw [World.cell?_alloc_new]; simpa using hmg, (TP_made V M 3 n (by omega) i hi).2⟩⟩)
  have HBX : Hid (∀ V g, Mk0 w.heap.size n g V → Ev V.heap.size g n (.slice s3 l3 c3) (.slice la ln lc) FA false ls.length (allT x ls) (V.alloc (.cells #[.slice s0 l0 c0, .slice s1 l1 c1, .slice s2 l2 c2, .slice s3 l3 c3, .slice s4 l4 c4, .slice s5 l5 c5, .int .i64 (FA : Int), .slice la ln lc, .slice (some ⟨g, 0, none⟩) n n, .bool false] 80)) ∧ V.heap.size ≠ g) := hide (fun V g h => Ev_box h (by omega))
  go_enter Tryd.func18, Tryd.ntmps18
  go_wp2_with fail
  rw [← unhide HW1]
  refine wp_plan (GW (FT1 s0 s1 s2 s3 s4 s5 la l0 l1 l2 l3 l4 l5 c0 c1 c2 c3 c4 c5 lc ln w.heap.size FA n v ls.length (allT x ls))) (JB W1) (by kernel_rfl) 34 (by kernel_rfl) (by kernel_rfl) ?hj ?hs ?hf
  case hj => exact bdr (brf W1)
  case hs =>
    refine ⟨?_, ?_, ?_, ?_, ?_, ?_, ?_, ?_, ?_, ?_, ?_, ?_, ?_, ?_, ?_, ?_, trivial⟩
    · exact sl_val rfl (fun l a V hp ha => ⟨.agg #[.slice s0 l0 c0, .slice s1 l1 c1, .slice s2 l2 c2, .slice s3 l3 c3, .slice s4 l4 c4, .slice s5 l5 c5], by
        have x3 := (ev_form a 3).trans (old hp 3 (v := .pointer (some ⟨w.heap.size, 0, none⟩)) (by kernel_rfl) (by kernel_rfl))
        obtain ⟨q0, q1, q2, q3, q4, q5⟩ := ((unhide HX1).then hp.j).get
        go_simp, rfl⟩)
    · exact sl_val rfl (fun l a V hp ha => ⟨.pointer (some ⟨w.heap.size, 0, none⟩), by
        have x3 := (ev_form a 3).trans (old hp 3 (v := .pointer (some ⟨w.heap.size, 0, none⟩)) (by kernel_rfl) (by kernel_rfl))
        go_simp, rfl⟩)
    · exact sl_val rfl (fun l a V hp ha => ⟨.slice s0 l0 c0, by
        have x11 := (ev_form a 11).trans (show a.eval (.tmp 11) = .pointer (some ⟨w.heap.size, 0, none⟩) from kn hp ha 11 1 (by kernel_rfl) (by kernel_rfl))
        obtain ⟨q0, q1, q2, q3, q4, q5⟩ := ((unhide HX1).then hp.j).get
        go_simp, rfl⟩)
    · exact sl_val rfl (fun l a V hp ha => ⟨.int .i64 (l0 : Int), by
        have x12 := (ev_form a 12).trans (show a.eval (.tmp 12) = .slice s0 l0 c0 from kn hp ha 12 2 (by kernel_rfl) (by kernel_rfl))
        go_simp, rfl⟩)
    · exact sl_val rfl (fun l a V hp ha => ⟨.int .i64 ((1 : Int) + (l0 : Int)), by
        have x13 := (ev_form a 13).trans (show a.eval (.tmp 13) = .int .i64 (l0 : Int) from kn hp ha 13 3 (by kernel_rfl) (by kernel_rfl))
        have hw := hw1
        go_simp, rfl⟩)
    · exact sl_val rfl (fun l a V hp ha => ⟨.pointer (some ⟨w.heap.size, 2, none⟩), by
        have x3 := (ev_form a 3).trans (old hp 3 (v := .pointer (some ⟨w.heap.size, 0, none⟩)) (by kernel_rfl) (by kernel_rfl))
        go_simp, rfl⟩)
    · exact sl_val rfl (fun l a V hp ha => ⟨.slice s2 l2 c2, by
        have x15 := (ev_form a 15).trans (show a.eval (.tmp 15) = .pointer (some ⟨w.heap.size, 2, none⟩) from kn hp ha 15 5 (by kernel_rfl) (by kernel_rfl))
        obtain ⟨q0, q1, q2, q3, q4, q5⟩ := ((unhide HX1).then hp.j).get
        go_simp, rfl⟩)
    · exact sl_val rfl (fun l a V hp ha => ⟨.int .i64 (l2 : Int), by
        have x16 := (ev_form a 16).trans (show a.eval (.tmp 16) = .slice s2 l2 c2 from kn hp ha 16 6 (by kernel_rfl) (by kernel_rfl))
        go_simp, rfl⟩)
    · exact sl_val rfl (fun l a V hp ha => ⟨.int .i64 (FA : Int), by
        have x14 := (ev_form a 14).trans (show a.eval (.tmp 14) = .int .i64 ((1 : Int) + (l0 : Int)) from kn hp ha 14 4 (by kernel_rfl) (by kernel_rfl))
        have x17 := (ev_form a 17).trans (show a.eval (.tmp 17) = .int .i64 (l2 : Int) from kn hp ha 17 7 (by kernel_rfl) (by kernel_rfl))
        have hw := hwf2
        have hs := hsf
        go_simp, rfl⟩)
    · exact sl_val rfl (fun l a V hp ha => ⟨.slice la ln lc, by
        have x2 := (ev_form a 2).trans (old hp 2 (v := .slice la ln lc) (by kernel_rfl) (by kernel_rfl))
        go_simp, rfl⟩)
    · exact sl_val rfl (fun l a V hp ha => ⟨.int .i64 (v : Int), by
        have x1 := (ev_form a 1).trans (old hp 1 (v := .int .i64 (v : Int)) (by kernel_rfl) (by kernel_rfl))
        go_simp, rfl⟩)
    · exact sl_val rfl (fun l a V hp ha => ⟨.int .i64 (n : Int), by
        have x20 := (ev_form a 20).trans (show a.eval (.tmp 20) = .int .i64 (v : Int) from kn hp ha 20 10 (by kernel_rfl) (by kernel_rfl))
        have hw := hwn2
        have hs := hsum
        go_simp, rfl⟩)
    · exact sl_new (FT1.lasts _ _ _ _ _ _ _ _ _ _ _ _ _ _ _ _ _ _ _ _ _ _ _ _ _ _ _) rfl (fun l a V hp ha => ⟨.slice (some ⟨V.heap.size, 0, none⟩) n n, .cells M 3, by
        have x21 := (ev_form a 21).trans (show a.eval (.tmp 21) = .int .i64 (n : Int) from kn hp ha 21 11 (by kernel_rfl) (by kernel_rfl))
        have hm := hmk V
        go_simp, V.heap.size, rfl, unhide HMK V (((unhide HX1).then hp.j))⟩)
    · refine sl_val rfl (fun l a V hp ha => ?_)
      obtain ⟨g, hg, hmk0⟩ := (kn hp ha 22 12 (by kernel_rfl) (by kernel_rfl) : ∃ g, a.eval (.tmp 22) = .slice (some ⟨g, 0, none⟩) n n ∧ Mk0 w.heap.size n g V)
      have x22 := (ev_form a 22).trans hg
      have x10 := (ev_form a 10).trans (show a.eval (.tmp 10) = .agg #[.slice s0 l0 c0, .slice s1 l1 c1, .slice s2 l2 c2, .slice s3 l3 c3, .slice s4 l4 c4, .slice s5 l5 c5] from kn hp ha 10 0 (by kernel_rfl) (by kernel_rfl))
      have x18 := (ev_form a 18).trans (show a.eval (.tmp 18) = .int .i64 (FA : Int) from kn hp ha 18 8 (by kernel_rfl) (by kernel_rfl))
      have x19 := (ev_form a 19).trans (show a.eval (.tmp 19) = .slice la ln lc from kn hp ha 19 9 (by kernel_rfl) (by kernel_rfl))
      exact ⟨.agg #[.slice s0 l0 c0, .slice s1 l1 c1, .slice s2 l2 c2, .slice s3 l3 c3, .slice s4 l4 c4, .slice s5 l5 c5, .int .i64 (FA : Int), .slice la ln lc, .slice (some ⟨g, 0, none⟩) n n, .bool false], by go_simp, g, rfl, hmk0⟩
    · refine sl_new (FT1.lasts _ _ _ _ _ _ _ _ _ _ _ _ _ _ _ _ _ _ _ _ _ _ _ _ _ _ _) rfl (fun l a V hp ha => ?_)
      obtain ⟨g, hg, hmk0⟩ := (kn hp ha 23 13 (by kernel_rfl) (by kernel_rfl) : ∃ g, a.eval (.tmp 23) = .agg #[.slice s0 l0 c0, .slice s1 l1 c1, .slice s2 l2 c2, .slice s3 l3 c3, .slice s4 l4 c4, .slice s5 l5 c5, .int .i64 (FA : Int), .slice la ln lc, .slice (some ⟨g, 0, none⟩) n n, .bool false] ∧ Mk0 w.heap.size n g V)
      have x23 := (ev_form a 23).trans hg
      have hE := unhide HBX V g hmk0
      have hl := unhide HLT V ((unhide HX1).then hp.j)
      exact ⟨.pointer (some ⟨V.heap.size, 0, none⟩), .cells #[.slice s0 l0 c0, .slice s1 l1 c1, .slice s2 l2 c2, .slice s3 l3 c3, .slice s4 l4 c4, .slice s5 l5 c5, .int .i64 (FA : Int), .slice la ln lc, .slice (some ⟨g, 0, none⟩) n n, .bool false] 80, by go_simp, V.heap.size, g, rfl, hE.2, hl, hmk0.1, hE.1⟩
    · refine sl_val rfl (fun l a V hp ha => ?_)
      obtain ⟨b, g, hg, hr⟩ := (kn hp ha 24 14 (by kernel_rfl) (by kernel_rfl) : ∃ b g, a.eval (.tmp 24) = .pointer (some ⟨b, 0, none⟩) ∧ b ≠ g ∧ w.heap.size < b ∧ w.heap.size < g ∧ Ev b g n (.slice s3 l3 c3) (.slice la ln lc) FA false ls.length (allT x ls) V)
      have x24 := (ev_form a 24).trans hg
      exact ⟨.pointer (some ⟨b, 0, none⟩), by go_simp, b, g, rfl, hr⟩
  case hf =>
    intro l a V hp hall
    obtain ⟨b, g, h8, hr⟩ := (hp.good 15 _ 8 rfl rfl (hall 15 (by decide)) : ∃ b g, a.eval (.tmp 8) = .pointer (some ⟨b, 0, none⟩) ∧ b ≠ g ∧ w.heap.size < b ∧ w.heap.size < g ∧ Ev b g n (.slice s3 l3 c3) (.slice la ln lc) FA false ls.length (allT x ls) V)
    obtain ⟨us, rfl, hus⟩ := putAll_of [10, 11, 12, 13, 14, 15, 16, 17, 18, 19, 20, 21, 22, 23, 24, 8] hp.nt hp.df (fun t ht => hp.keep t (dstIn (by kernel_rfl) ht))
    have hu8 : us 8 = .pointer (some ⟨b, 0, none⟩) := (hus 8).trans h8
    have HBV := hide (((unhide HX1).then hp.j).below)
    obtain ⟨hr1, hr2, hr3, hr4⟩ := hr
    have HCV : Hid (Calls Tryd.prog 41 #[.pointer (some ⟨b, 0, none⟩), .int .i64 (v : Int)] V fun e w' => ∃ r : Nat, e = .returned (.int .i64 (r : Int)) ∧ EvP b g n (.slice s3 l3 c3) (.slice la ln lc) (firstN x) ls.length (allT x ls) v false V r w') := hide (unhide HEV b g hr1 (fun i h => by rcases h with rfl | rfl <;> omega) false V (by rw [unhide HFN]; exact hr4) (unhide HBV))
    have HSB : Hid (∀ i, (i = g ∨ i = b) → w.heap.size ≤ i) := hide (fun i h => by rcases h with rfl | rfl <;> omega)
    clear hp hall hus h8 hr1 hr2 hr3 hr4 HX1 HC HEV HLT HMK HBX hlt
    simp only [putAll, List.foldl, Act.put, List.setIfInBounds_toArray, List.set_cons_zero, List.set_cons_succ, hu8]
    clear hu8
    generalize us 10 = z10 at *
    generalize us 11 = z11 at *
    generalize us 12 = z12 at *
    generalize us 13 = z13 at *
    generalize us 14 = z14 at *
    generalize us 15 = z15 at *
    generalize us 16 = z16 at *
    generalize us 17 = z17 at *
    generalize us 18 = z18 at *
    generalize us 19 = z19 at *
    generalize us 20 = z20 at *
    generalize us 21 = z21 at *
    generalize us 22 = z22 at *
    generalize us 23 = z23 at *
    generalize us 24 = z24 at *
    go_wp2_with fail
    refine (unhide HCV).mono ?_
    rintro e V2 ⟨r, rfl, bad, t1, t2, t3, t4, t5, t6⟩
    have c9 := t2.c9
    have HB2 := hide (FS.below (unhide HBV) t3 (unhide HSB) (unhide HBV).size)
    have HT := hide (And.intro t1 (And.intro t5 t6))
    clear t1 t2 t3 t4 t5 t6 HCV
    go_wp2_with fail
    go_quiet (fail)
    go_wp2_with fail
    exact bodyPost_ret (v := .tuple #[.int .i64 (r : Int), .bool (!bad)]) (by simp [results, Tryd.results18, go_sem]) rfl ⟨r, !bad, rfl, by rw [unhide HLN]; exact (unhide HT).1, fun h => (unhide HT).2.1 (by simpa using h), fun h => by
      rcases (unhide HT).2.2 (by simpa using h) with h | h
      · cases h
      · exact h, btr (unhide HB2) (bdn (brf V2))⟩
end Go.Proofs.YtpkgcccbhfdaiaaDoor
namespace Go.Proofs.YtpkgcccbhfdaiaaDoor
open Go Go.RowKit Gs
set_option linter.unusedVariables false
set_option linter.unusedSimpArgs false
set_option maxRecDepth 100000
def FU6 (s0 s1 s2 s3 s4 s5 : Option Addr) (l0 l1 l2 l3 l4 l5 c0 c1 c2 c3 c4 c6 bb oo ln lc i ip N : Nat) (lf lp : Int) (c5 c12 c16 c27 : Bool) : Nat → Value → Prop
  | 0, v => v = .slice (some ⟨bb, oo, none⟩) ln lc
  | 1, v => v = .int .i64 (i : Int)
  | 2, v => v = .pointer (some ⟨bb, oo + i, none⟩)
  | 3, v => v = .int .i64 lf
  | 4, v => v = .bool c5
  | 5, v => v = .bool c5
  | 6, v => (!c5) = true → v = .slice (some ⟨bb, oo, none⟩) ln lc
  | 7, v => (!c5) = true → v = .int .i64 (i : Int)
  | 8, v => (!c5) = true → v = .pointer (some ⟨bb, oo + i, none⟩)
  | 9, v => (!c5) = true → v = .int .i64 lf
  | 10, v => (!c5) = true → v = .agg #[.slice s0 l0 c0, .slice s1 l1 c1, .slice s2 l2 c2, .slice s3 l3 c3, .slice s4 l4 c4, .slice s5 l5 c6]
  | 11, v => (!c5) = true → v = .int .i64 (N : Int)
  | 12, v => (!c5) = true → v = .bool c12
  | 13, v => v = .bool (c5 || c12)
  | 14, v => v = .bool (c5 || c12)
  | 15, v => (!(c5 || c12)) = true → v = .int .i64 (i : Int)
  | 16, v => (!(c5 || c12)) = true → v = .bool c16
  | 17, v => ((c5 || c12) = true → v = undef) ∧ ((c5 || c12) = false → v = .bool c16)
  | 18, v => (!(c5 || c12) && c16) = true → v = .slice (some ⟨bb, oo, none⟩) ln lc
  | 19, v => (!(c5 || c12) && c16) = true → v = .int .i64 (i : Int)
  | 20, v => (!(c5 || c12) && c16) = true → v = .int .i64 (ip : Int)
  | 21, v => (!(c5 || c12) && c16) = true → v = .pointer (some ⟨bb, oo + ip, none⟩)
  | 22, v => (!(c5 || c12) && c16) = true → v = .int .i64 lp
  | 23, v => (!(c5 || c12) && c16) = true → v = .slice (some ⟨bb, oo, none⟩) ln lc
  | 24, v => (!(c5 || c12) && c16) = true → v = .int .i64 (i : Int)
  | 25, v => (!(c5 || c12) && c16) = true → v = .pointer (some ⟨bb, oo + i, none⟩)
  | 26, v => (!(c5 || c12) && c16) = true → v = .int .i64 lf
  | 27, v => (!(c5 || c12) && c16) = true → v = .bool c27
  | 28, v => (!(c5 || c12)) = true → v = .bool (c16 && c27)
  | 29, v => v = .bool ((c5 || c12) || (c16 && c27))
  | _, _ => True
theorem guard17 {c5 c12 c16 : Bool} {v : Value} (h : ((c5 || c12) = true → v = undef) ∧ ((c5 || c12) = false → v = .bool c16)) (hc : (!(c5 || c12) && c16) = true) : v = .bool true := by
  rw [Bool.and_eq_true] at hc
  rw [h.2 (by simpa using hc.1), hc.2]
theorem guard17' {c5 c12 c16 : Bool} {v : Value} (h : ((c5 || c12) = true → v = undef) ∧ ((c5 || c12) = false → v = .bool c16)) (hc : (!(c5 || c12) && c16) = false) : v = .bool (!true) ∨ v = undef := by
  cases e : (c5 || c12) with
  | true => exact .inr (h.1 e)
  | false =>
    rw [e] at hc
    exact .inl (by rw [h.2 e, show c16 = false by simpa using hc]; rfl)
theorem c16_of {c5 c12 c16 : Bool} (hc : (!(c5 || c12) && c16) = true) : c16 = true := by
  rw [Bool.and_eq_true] at hc
  exact hc.2
def sTabOps6 : Array Oper := #[{ dst := some 31, op := Op.move (Operand.tmp 2), type := 28, pos := "l11_cuts.go:58", after := #[], guard := none }, { dst := some 32, op := Op.move (Operand.tmp 8), type := 3, pos := "l11_cuts.go:58", after := #[], guard := none }, { dst := some 33, op := Op.indexAddr 28 (Operand.tmp 31) (Operand.tmp 32), type := 0, pos := "l11_cuts.go:58", after := #[{ on := 0, ground := Ground.data }, { on := 1, ground := Ground.data }], guard := none }, { dst := some 34, op := Op.load 3 (Operand.tmp 33), type := 3, pos := "l11_cuts.go:58", after := #[{ on := 2, ground := Ground.data }], guard := none }, { dst := some 35, op := Op.binOp BinOp.lss 3 (Operand.tmp 34) (Operand.const (Value.int IntKind.i64 1)) 3, type := 4, pos := "l11_cuts.go:58", after := #[{ on := 3, ground := Ground.data }], guard := none }, { dst := some 36, op := Op.move (Operand.tmp 35), type := 4, pos := "l11_cuts.go:58", after := #[{ on := 4, ground := Ground.data }], guard := none }, { dst := some 37, op := Op.move (Operand.tmp 2), type := 28, pos := "l11_cuts.go:58", after := #[{ on := 5, ground := Ground.guard }], guard := some (5, false) }, { dst := some 38, op := Op.move (Operand.tmp 8), type := 3, pos := "l11_cuts.go:58", after := #[{ on := 5, ground := Ground.guard }], guard := some (5, false) }, { dst := some 39, op := Op.indexAddr 28 (Operand.tmp 37) (Operand.tmp 38), type := 0, pos := "l11_cuts.go:58", after := #[{ on := 6, ground := Ground.data }, { on := 7, ground := Ground.data }, { on := 5, ground := Ground.guard }], guard := some (5, false) }, { dst := some 40, op := Op.load 3 (Operand.tmp 39), type := 3, pos := "l11_cuts.go:58", after := #[{ on := 8, ground := Ground.data }, { on := 5, ground := Ground.guard }], guard := some (5, false) }, { dst := some 41, op := Op.load 36 (Operand.tmp 3), type := 36, pos := "l11_cuts.go:58", after := #[{ on := 5, ground := Ground.guard }], guard := some (5, false) }, { dst := some 42, op := Op.call { callee := Callee.value (Operand.func 17), args := #[Operand.tmp 41], argTypes := #[36] }, type := 3, pos := "l11_cuts.go:58", after := #[{ on := 10, ground := Ground.data }, { on := 5, ground := Ground.chain }, { on := 5, ground := Ground.guard }], guard := some (5, false) }, { dst := some 43, op := Op.binOp BinOp.geq 3 (Operand.tmp 40) (Operand.tmp 42) 3, type := 4, pos := "l11_cuts.go:58", after := #[{ on := 9, ground := Ground.data }, { on := 11, ground := Ground.data }, { on := 5, ground := Ground.guard }], guard := some (5, false) }, { dst := some 44, op := Op.pick (Operand.tmp 36) (Operand.const (Value.bool true)) (Operand.tmp 43), type := 4, pos := "l11_cuts.go:58", after := #[{ on := 5, ground := Ground.data }, { on := 12, ground := Ground.data }], guard := none }, { dst := some 45, op := Op.move (Operand.tmp 44), type := 4, pos := "l11_cuts.go:58", after := #[{ on := 13, ground := Ground.data }, { on := 11, ground := Ground.chain }], guard := none }, { dst := some 46, op := Op.move (Operand.tmp 8), type := 3, pos := "l11_cuts.go:58", after := #[{ on := 14, ground := Ground.guard }], guard := some (14, false) }, { dst := some 47, op := Op.binOp BinOp.gtr 3 (Operand.tmp 46) (Operand.const (Value.int IntKind.i64 0)) 3, type := 4, pos := "l11_cuts.go:58", after := #[{ on := 15, ground := Ground.data }, { on := 14, ground := Ground.guard }], guard := some (14, false) }, { dst := some 48, op := Op.move (Operand.tmp 47), type := 4, pos := "l11_cuts.go:58", after := #[{ on := 16, ground := Ground.data }, { on := 14, ground := Ground.chain }, { on := 14, ground := Ground.guard }], guard := some (14, false) }, { dst := some 49, op := Op.move (Operand.tmp 2), type := 28, pos := "l11_cuts.go:58", after := #[{ on := 17, ground := Ground.guard }], guard := some (17, true) }, { dst := some 50, op := Op.move (Operand.tmp 8), type := 3, pos := "l11_cuts.go:58", after := #[{ on := 17, ground := Ground.guard }], guard := some (17, true) }, { dst := some 51, op := Op.binOp BinOp.sub 3 (Operand.tmp 50) (Operand.const (Value.int IntKind.i64 1)) 3, type := 3, pos := "l11_cuts.go:58", after := #[{ on := 19, ground := Ground.data }, { on := 17, ground := Ground.guard }], guard := some (17, true) }, { dst := some 52, op := Op.indexAddr 28 (Operand.tmp 49) (Operand.tmp 51), type := 0, pos := "l11_cuts.go:58", after := #[{ on := 18, ground := Ground.data }, { on := 20, ground := Ground.data }, { on := 17, ground := Ground.guard }], guard := some (17, true) }, { dst := some 53, op := Op.load 3 (Operand.tmp 52), type := 3, pos := "l11_cuts.go:58", after := #[{ on := 21, ground := Ground.data }, { on := 17, ground := Ground.guard }], guard := some (17, true) }, { dst := some 54, op := Op.move (Operand.tmp 2), type := 28, pos := "l11_cuts.go:58", after := #[{ on := 17, ground := Ground.guard }], guard := some (17, true) }, { dst := some 55, op := Op.move (Operand.tmp 8), type := 3, pos := "l11_cuts.go:58", after := #[{ on := 17, ground := Ground.guard }], guard := some (17, true) }, { dst := some 56, op := Op.indexAddr 28 (Operand.tmp 54) (Operand.tmp 55), type := 0, pos := "l11_cuts.go:58", after := #[{ on := 23, ground := Ground.data }, { on := 24, ground := Ground.data }, { on := 17, ground := Ground.guard }], guard := some (17, true) }, { dst := some 57, op := Op.load 3 (Operand.tmp 56), type := 3, pos := "l11_cuts.go:58", after := #[{ on := 25, ground := Ground.data }, { on := 17, ground := Ground.guard }], guard := some (17, true) }, { dst := some 58, op := Op.binOp BinOp.geq 3 (Operand.tmp 53) (Operand.tmp 57) 3, type := 4, pos := "l11_cuts.go:58", after := #[{ on := 22, ground := Ground.data }, { on := 26, ground := Ground.data }, { on := 17, ground := Ground.guard }], guard := some (17, true) }, { dst := some 59, op := Op.pick (Operand.tmp 48) (Operand.tmp 58) (Operand.const (Value.bool false)), type := 4, pos := "l11_cuts.go:58", after := #[{ on := 17, ground := Ground.data }, { on := 27, ground := Ground.data }, { on := 14, ground := Ground.guard }], guard := some (14, false) }, { dst := some 60, op := Op.pick (Operand.tmp 45) (Operand.const (Value.bool true)) (Operand.tmp 59), type := 4, pos := "l11_cuts.go:58", after := #[{ on := 14, ground := Ground.data }, { on := 28, ground := Ground.data }], guard := none }]
set_option maxHeartbeats 32000000 in
theorem sReg6 {s0 s1 s2 s3 s4 s5 : Option Addr} {l0 l1 l2 l3 l4 l5 c0 c1 c2 c3 c4 c6 bb oo ln lc i ip N B : Nat} {lf lp : Int} {c5 c12 c16 c27 : Bool} {w W : World} {Q : Exit → Act → World → Prop} (hBw : B = w.heap.size) (HX : Hid (B6 36 w (.slice s0 l0 c0) (.slice s1 l1 c1) (.slice s2 l2 c2) (.slice s3 l3 c3) (.slice s4 l4 c4) (.slice s5 l5 c6) W))
    (HFI : Hid (∀ V : World, Calls Tryd.prog 17 #[.agg #[.slice s0 l0 c0, .slice s1 l1 c1, .slice s2 l2 c2, .slice s3 l3 c3, .slice s4 l4 c4, .slice s5 l5 c6]] V fun e w' => e = .returned (.int .i64 (N : Int)) ∧ Below V.heap.size V w')) (HKL : Hid (W.cell? ⟨bb, oo + i, none⟩ = some (.int .i64 lf))) (HKP : Hid (c16 = true → IntKind.i64.wrap ((i : Int) - 1) = (ip : Int) ∧ (ip : Int) < (ln : Int) ∧ W.cell? ⟨bb, oo + ip, none⟩ = some (.int .i64 lp)))
    (h5 : decide (lf < 1) = c5) (h12 : decide (lf ≥ (N : Int)) = c12) (h16 : decide ((i : Int) > 0) = c16) (h27 : decide (lp ≥ lf) = c27) (i1 : (0 : Int) ≤ (i : Int)) (i2 : (i : Int) < (ln : Int))
    (a0 : Act) (ha0 : a0.tmps.size = 80) (e2 : a0.eval (.tmp 2) = .slice (some ⟨bb, oo, none⟩) ln lc) (e8 : a0.eval (.tmp 8) = .int .i64 (i : Int)) (e3 : a0.eval (.tmp 3) = .pointer (some ⟨B, 0, none⟩))
    (hQ : ∀ a V, a.tmps.size = a0.tmps.size → a.defers = a0.defers → (∀ t, t ∉ [31, 32, 33, 34, 35, 36, 37, 38, 39, 40, 41, 42, 43, 44, 45, 46, 47, 48, 49, 50, 51, 52, 53, 54, 55, 56, 57, 58, 59, 60] → a.eval (.tmp t) = a0.eval (.tmp t)) → a.eval (.tmp 60) = .bool ((c5 || c12) || (c16 && c27)) → Below W.heap.size W V → Q .normal a V) :
    (Code.region 6 sTabOps6 true).wp Tryd.prog Q a0 W := by
  subst hBw
  refine wp_plan (GF (FU6 s0 s1 s2 s3 s4 s5 l0 l1 l2 l3 l4 l5 c0 c1 c2 c3 c4 c6 bb oo ln lc i ip N lf lp c5 c12 c16 c27)) (JB W) (by kernel_rfl) 80 ha0 (by kernel_rfl) ?hj ?hs ?hf
  case hj => exact bdr (brf W)
  case hs =>
    clear hQ
    refine ⟨?_, ?_, ?_, ?_, ?_, ?_, ?_, ?_, ?_, ?_, ?_, ?_, ?_, ?_, ?_, ?_, ?_, ?_, ?_, ?_, ?_, ?_, ?_, ?_, ?_, ?_, ?_, ?_, ?_, ?_, trivial⟩
    · exact st_val rfl (fun l a V hp ha => ⟨.slice (some ⟨bb, oo, none⟩) ln lc, by
        have x2 := (ev_form a 2).trans (old hp 2 (v := .slice (some ⟨bb, oo, none⟩) ln lc) (by kernel_rfl) e2)
        go_simp, rfl⟩)
    · exact st_val rfl (fun l a V hp ha => ⟨.int .i64 (i : Int), by
        have x8 := (ev_form a 8).trans (old hp 8 (v := .int .i64 (i : Int)) (by kernel_rfl) e8)
        go_simp, rfl⟩)
    · exact st_val rfl (fun l a V hp ha => ⟨.pointer (some ⟨bb, oo + i, none⟩), by
        have x31 := (ev_form a 31).trans (show a.eval (.tmp 31) = .slice (some ⟨bb, oo, none⟩) ln lc from kn hp ha 31 0 (by kernel_rfl) (by kernel_rfl))
        have x32 := (ev_form a 32).trans (show a.eval (.tmp 32) = .int .i64 (i : Int) from kn hp ha 32 1 (by kernel_rfl) (by kernel_rfl))
        go_simp, rfl⟩)
    · exact st_val rfl (fun l a V hp ha => ⟨.int .i64 lf, by
        have x33 := (ev_form a 33).trans (show a.eval (.tmp 33) = .pointer (some ⟨bb, oo + i, none⟩) from kn hp ha 33 2 (by kernel_rfl) (by kernel_rfl))
        have k0 := cell_later hp.j (unhide HKL)
        go_simp, rfl⟩)
    · exact st_val rfl (fun l a V hp ha => ⟨.bool c5, by
        have x34 := (ev_form a 34).trans (show a.eval (.tmp 34) = .int .i64 lf from kn hp ha 34 3 (by kernel_rfl) (by kernel_rfl))
        have hd := h5
        go_simp, rfl⟩)
    · exact st_val rfl (fun l a V hp ha => ⟨.bool c5, by
        have x35 := (ev_form a 35).trans (show a.eval (.tmp 35) = .bool c5 from kn hp ha 35 4 (by kernel_rfl) (by kernel_rfl))
        go_simp, rfl⟩)
    · exact sn_val (c := (!c5)) rfl rfl (by rw [ha0]; decide) (by kernel_rfl) (fun v h hc => by rw [show v = .bool c5 from h]; cases c5 <;> simp_all) (fun v h hc => .inl (by rw [show v = .bool c5 from h]; cases c5 <;> simp_all)) (fun hn hc => absurd hc (by rw [hn]; simp)) (fun l a V hp ha hc => ⟨.slice (some ⟨bb, oo, none⟩) ln lc, by
        have x2 := (ev_form a 2).trans (old hp 2 (v := .slice (some ⟨bb, oo, none⟩) ln lc) (by kernel_rfl) e2)
        go_simp, fun _ => rfl⟩)
    · exact sn_val (c := (!c5)) rfl rfl (by rw [ha0]; decide) (by kernel_rfl) (fun v h hc => by rw [show v = .bool c5 from h]; cases c5 <;> simp_all) (fun v h hc => .inl (by rw [show v = .bool c5 from h]; cases c5 <;> simp_all)) (fun hn hc => absurd hc (by rw [hn]; simp)) (fun l a V hp ha hc => ⟨.int .i64 (i : Int), by
        have x8 := (ev_form a 8).trans (old hp 8 (v := .int .i64 (i : Int)) (by kernel_rfl) e8)
        go_simp, fun _ => rfl⟩)
    · exact sn_val (c := (!c5)) rfl rfl (by rw [ha0]; decide) (by kernel_rfl) (fun v h hc => by rw [show v = .bool c5 from h]; cases c5 <;> simp_all) (fun v h hc => .inl (by rw [show v = .bool c5 from h]; cases c5 <;> simp_all)) (fun hn hc => absurd hc (by rw [hn]; simp)) (fun l a V hp ha hc => ⟨.pointer (some ⟨bb, oo + i, none⟩), by
        have x37 := (ev_form a 37).trans (show a.eval (.tmp 37) = .slice (some ⟨bb, oo, none⟩) ln lc from (kn hp ha 37 6 (by kernel_rfl) (by kernel_rfl)) hc)
        have x38 := (ev_form a 38).trans (show a.eval (.tmp 38) = .int .i64 (i : Int) from (kn hp ha 38 7 (by kernel_rfl) (by kernel_rfl)) hc)
        go_simp, fun _ => rfl⟩)
    · exact sn_val (c := (!c5)) rfl rfl (by rw [ha0]; decide) (by kernel_rfl) (fun v h hc => by rw [show v = .bool c5 from h]; cases c5 <;> simp_all) (fun v h hc => .inl (by rw [show v = .bool c5 from h]; cases c5 <;> simp_all)) (fun hn hc => absurd hc (by rw [hn]; simp)) (fun l a V hp ha hc => ⟨.int .i64 lf, by
        have x39 := (ev_form a 39).trans (show a.eval (.tmp 39) = .pointer (some ⟨bb, oo + i, none⟩) from (kn hp ha 39 8 (by kernel_rfl) (by kernel_rfl)) hc)
        have k0 := cell_later hp.j (unhide HKL)
        go_simp, fun _ => rfl⟩)
    · exact sn_val (c := (!c5)) rfl rfl (by rw [ha0]; decide) (by kernel_rfl) (fun v h hc => by rw [show v = .bool c5 from h]; cases c5 <;> simp_all) (fun v h hc => .inl (by rw [show v = .bool c5 from h]; cases c5 <;> simp_all)) (fun hn hc => absurd hc (by rw [hn]; simp)) (fun l a V hp ha hc => ⟨.agg #[.slice s0 l0 c0, .slice s1 l1 c1, .slice s2 l2 c2, .slice s3 l3 c3, .slice s4 l4 c4, .slice s5 l5 c6], by
        have x3 := (ev_form a 3).trans (old hp 3 (v := .pointer (some ⟨w.heap.size, 0, none⟩)) (by kernel_rfl) e3)
        obtain ⟨q0, q1, q2, q3, q4, q5⟩ := ((unhide HX).then hp.j).get
        go_simp, fun _ => rfl⟩)
    · exact sn_call (f := 17) (c := (!c5)) rfl rfl (by rw [ha0]; decide) (by kernel_rfl) (fun v h hc => by rw [show v = .bool c5 from h]; cases c5 <;> simp_all) (fun v h hc => .inl (by rw [show v = .bool c5 from h]; cases c5 <;> simp_all)) (fun hn hc => absurd hc (by rw [hn]; simp)) (fun l a V hp ha hc => ⟨#[.agg #[.slice s0 l0 c0, .slice s1 l1 c1, .slice s2 l2 c2, .slice s3 l3 c3, .slice s4 l4 c4, .slice s5 l5 c6]], by
        have x41 := (ev_form a 41).trans (show a.eval (.tmp 41) = .agg #[.slice s0 l0 c0, .slice s1 l1 c1, .slice s2 l2 c2, .slice s3 l3 c3, .slice s4 l4 c4, .slice s5 l5 c6] from (kn hp ha 41 10 (by kernel_rfl) (by kernel_rfl)) hc)
        go_simp, (unhide HFI V).mono (by rintro e V1 ⟨rfl, hb⟩; exact ⟨_, rfl, fun _ => rfl, hb⟩)⟩)
    · exact sn_val (c := (!c5)) rfl rfl (by rw [ha0]; decide) (by kernel_rfl) (fun v h hc => by rw [show v = .bool c5 from h]; cases c5 <;> simp_all) (fun v h hc => .inl (by rw [show v = .bool c5 from h]; cases c5 <;> simp_all)) (fun hn hc => absurd hc (by rw [hn]; simp)) (fun l a V hp ha hc => ⟨.bool c12, by
        have x40 := (ev_form a 40).trans (show a.eval (.tmp 40) = .int .i64 lf from (kn hp ha 40 9 (by kernel_rfl) (by kernel_rfl)) hc)
        have x42 := (ev_form a 42).trans (show a.eval (.tmp 42) = .int .i64 (N : Int) from (kn hp ha 42 11 (by kernel_rfl) (by kernel_rfl)) hc)
        have hd := h12
        go_simp, fun _ => rfl⟩)
    · refine st_val rfl (fun l a V hp ha => ?_)
      have x36 := (ev_form a 36).trans (show a.eval (.tmp 36) = .bool c5 from kn hp ha 36 5 (by kernel_rfl) (by kernel_rfl))
      have k43 : (!c5) = true → a.eval (.tmp 43) = .bool c12 := kn hp ha 43 12 (by kernel_rfl) (by kernel_rfl)
      generalize hC : c5 = cc at *
      cases cc with
      | true => exact ⟨.bool true, by go_simp, by simp [FU6, hC]⟩
      | false =>
        have x43 := (ev_form a 43).trans (k43 rfl)
        exact ⟨.bool c12, by go_simp, by simp [FU6, hC]⟩
    · exact st_val rfl (fun l a V hp ha => ⟨.bool (c5 || c12), by
        have x44 := (ev_form a 44).trans (show a.eval (.tmp 44) = .bool (c5 || c12) from kn hp ha 44 13 (by kernel_rfl) (by kernel_rfl))
        go_simp, rfl⟩)
    · exact sn_val (c := (!(c5 || c12))) rfl rfl (by rw [ha0]; decide) (by kernel_rfl) (fun v h hc => by rw [show v = .bool (c5 || c12) from h]; cases c5 <;> cases c12 <;> simp_all) (fun v h hc => .inl (by rw [show v = .bool (c5 || c12) from h]; cases c5 <;> cases c12 <;> simp_all)) (fun hn hc => absurd hc (by rw [hn]; simp)) (fun l a V hp ha hc => ⟨.int .i64 (i : Int), by
        have x8 := (ev_form a 8).trans (old hp 8 (v := .int .i64 (i : Int)) (by kernel_rfl) e8)
        go_simp, fun _ => rfl⟩)
    · exact sn_val (c := (!(c5 || c12))) rfl rfl (by rw [ha0]; decide) (by kernel_rfl) (fun v h hc => by rw [show v = .bool (c5 || c12) from h]; cases c5 <;> cases c12 <;> simp_all) (fun v h hc => .inl (by rw [show v = .bool (c5 || c12) from h]; cases c5 <;> cases c12 <;> simp_all)) (fun hn hc => absurd hc (by rw [hn]; simp)) (fun l a V hp ha hc => ⟨.bool c16, by
        have x46 := (ev_form a 46).trans (show a.eval (.tmp 46) = .int .i64 (i : Int) from (kn hp ha 46 15 (by kernel_rfl) (by kernel_rfl)) hc)
        have hd : decide (0 < i) = c16 := by rw [← h16]; exact decide_eq_decide.2 (by omega)
        go_simp, fun _ => rfl⟩)
    · refine sn_val (c := (!(c5 || c12))) rfl rfl (by rw [ha0]; decide) (by kernel_rfl) (fun v h hc => by rw [show v = .bool (c5 || c12) from h]; cases c5 <;> cases c12 <;> simp_all) (fun v h hc => .inl (by rw [show v = .bool (c5 || c12) from h]; cases c5 <;> cases c12 <;> simp_all)) (fun hn => ⟨fun _ => rfl, fun h => by rw [h] at hn; cases hn⟩) (fun l a V hp ha hc => ?_)
      have hc14 : (c5 || c12) = false := by simpa using hc
      have x47 := (ev_form a 47).trans (show a.eval (.tmp 47) = .bool c16 from kn hp ha 47 16 (by kernel_rfl) (by kernel_rfl) hc)
      exact ⟨.bool c16, by go_simp, (fun h => by rw [hc14] at h; cases h), fun _ => rfl⟩
    · exact sn_val (c := (!(c5 || c12) && c16)) rfl rfl (by rw [ha0]; decide) (by kernel_rfl) (fun v h hc => guard17 h hc) (fun v h hc => guard17' h hc) (fun hn hc => absurd hc (by rw [hn]; simp)) (fun l a V hp ha hc => ⟨.slice (some ⟨bb, oo, none⟩) ln lc, by
        have x2 := (ev_form a 2).trans (old hp 2 (v := .slice (some ⟨bb, oo, none⟩) ln lc) (by kernel_rfl) e2)
        go_simp, fun _ => rfl⟩)
    · exact sn_val (c := (!(c5 || c12) && c16)) rfl rfl (by rw [ha0]; decide) (by kernel_rfl) (fun v h hc => guard17 h hc) (fun v h hc => guard17' h hc) (fun hn hc => absurd hc (by rw [hn]; simp)) (fun l a V hp ha hc => ⟨.int .i64 (i : Int), by
        have x8 := (ev_form a 8).trans (old hp 8 (v := .int .i64 (i : Int)) (by kernel_rfl) e8)
        go_simp, fun _ => rfl⟩)
    · exact sn_val (c := (!(c5 || c12) && c16)) rfl rfl (by rw [ha0]; decide) (by kernel_rfl) (fun v h hc => guard17 h hc) (fun v h hc => guard17' h hc) (fun hn hc => absurd hc (by rw [hn]; simp)) (fun l a V hp ha hc => ⟨.int .i64 (ip : Int), by
        have x50 := (ev_form a 50).trans (show a.eval (.tmp 50) = .int .i64 (i : Int) from (kn hp ha 50 19 (by kernel_rfl) (by kernel_rfl)) hc)
        have hw := ((unhide HKP) (c16_of hc)).1
        go_simp, fun _ => rfl⟩)
    · exact sn_val (c := (!(c5 || c12) && c16)) rfl rfl (by rw [ha0]; decide) (by kernel_rfl) (fun v h hc => guard17 h hc) (fun v h hc => guard17' h hc) (fun hn hc => absurd hc (by rw [hn]; simp)) (fun l a V hp ha hc => ⟨.pointer (some ⟨bb, oo + ip, none⟩), by
        have x49 := (ev_form a 49).trans (show a.eval (.tmp 49) = .slice (some ⟨bb, oo, none⟩) ln lc from (kn hp ha 49 18 (by kernel_rfl) (by kernel_rfl)) hc)
        have x51 := (ev_form a 51).trans (show a.eval (.tmp 51) = .int .i64 (ip : Int) from (kn hp ha 51 20 (by kernel_rfl) (by kernel_rfl)) hc)
        have hq := ((unhide HKP) (c16_of hc)).2.1
        have hq0 : (0 : Int) ≤ (ip : Int) := by omega
        go_simp, fun _ => rfl⟩)
    · exact sn_val (c := (!(c5 || c12) && c16)) rfl rfl (by rw [ha0]; decide) (by kernel_rfl) (fun v h hc => guard17 h hc) (fun v h hc => guard17' h hc) (fun hn hc => absurd hc (by rw [hn]; simp)) (fun l a V hp ha hc => ⟨.int .i64 lp, by
        have x52 := (ev_form a 52).trans (show a.eval (.tmp 52) = .pointer (some ⟨bb, oo + ip, none⟩) from (kn hp ha 52 21 (by kernel_rfl) (by kernel_rfl)) hc)
        have k0 := cell_later hp.j ((unhide HKP) (c16_of hc)).2.2
        go_simp, fun _ => rfl⟩)
    · exact sn_val (c := (!(c5 || c12) && c16)) rfl rfl (by rw [ha0]; decide) (by kernel_rfl) (fun v h hc => guard17 h hc) (fun v h hc => guard17' h hc) (fun hn hc => absurd hc (by rw [hn]; simp)) (fun l a V hp ha hc => ⟨.slice (some ⟨bb, oo, none⟩) ln lc, by
        have x2 := (ev_form a 2).trans (old hp 2 (v := .slice (some ⟨bb, oo, none⟩) ln lc) (by kernel_rfl) e2)
        go_simp, fun _ => rfl⟩)
    · exact sn_val (c := (!(c5 || c12) && c16)) rfl rfl (by rw [ha0]; decide) (by kernel_rfl) (fun v h hc => guard17 h hc) (fun v h hc => guard17' h hc) (fun hn hc => absurd hc (by rw [hn]; simp)) (fun l a V hp ha hc => ⟨.int .i64 (i : Int), by
        have x8 := (ev_form a 8).trans (old hp 8 (v := .int .i64 (i : Int)) (by kernel_rfl) e8)
        go_simp, fun _ => rfl⟩)
    · exact sn_val (c := (!(c5 || c12) && c16)) rfl rfl (by rw [ha0]; decide) (by kernel_rfl) (fun v h hc => guard17 h hc) (fun v h hc => guard17' h hc) (fun hn hc => absurd hc (by rw [hn]; simp)) (fun l a V hp ha hc => ⟨.pointer (some ⟨bb, oo + i, none⟩), by
        have x54 := (ev_form a 54).trans (show a.eval (.tmp 54) = .slice (some ⟨bb, oo, none⟩) ln lc from (kn hp ha 54 23 (by kernel_rfl) (by kernel_rfl)) hc)
        have x55 := (ev_form a 55).trans (show a.eval (.tmp 55) = .int .i64 (i : Int) from (kn hp ha 55 24 (by kernel_rfl) (by kernel_rfl)) hc)
        go_simp, fun _ => rfl⟩)
    · exact sn_val (c := (!(c5 || c12) && c16)) rfl rfl (by rw [ha0]; decide) (by kernel_rfl) (fun v h hc => guard17 h hc) (fun v h hc => guard17' h hc) (fun hn hc => absurd hc (by rw [hn]; simp)) (fun l a V hp ha hc => ⟨.int .i64 lf, by
        have x56 := (ev_form a 56).trans (show a.eval (.tmp 56) = .pointer (some ⟨bb, oo + i, none⟩) from (kn hp ha 56 25 (by kernel_rfl) (by kernel_rfl)) hc)
        have k0 := cell_later hp.j (unhide HKL)
        go_simp, fun _ => rfl⟩)
    · exact sn_val (c := (!(c5 || c12) && c16)) rfl rfl (by rw [ha0]; decide) (by kernel_rfl) (fun v h hc => guard17 h hc) (fun v h hc => guard17' h hc) (fun hn hc => absurd hc (by rw [hn]; simp)) (fun l a V hp ha hc => ⟨.bool c27, by
        have x53 := (ev_form a 53).trans (show a.eval (.tmp 53) = .int .i64 lp from (kn hp ha 53 22 (by kernel_rfl) (by kernel_rfl)) hc)
        have x57 := (ev_form a 57).trans (show a.eval (.tmp 57) = .int .i64 lf from (kn hp ha 57 26 (by kernel_rfl) (by kernel_rfl)) hc)
        have hd := h27
        go_simp, fun _ => rfl⟩)
    · refine sn_val (c := (!(c5 || c12))) rfl rfl (by rw [ha0]; decide) (by kernel_rfl) (fun v h hc => by rw [show v = .bool (c5 || c12) from h]; cases c5 <;> cases c12 <;> simp_all) (fun v h hc => .inl (by rw [show v = .bool (c5 || c12) from h]; cases c5 <;> cases c12 <;> simp_all)) (fun hn hc => absurd hc (by rw [hn]; simp)) (fun l a V hp ha hc => ?_)
      have hc14 : (c5 || c12) = false := by simpa using hc
      have x48 := (ev_form a 48).trans (show a.eval (.tmp 48) = .bool c16 from (kn hp ha 48 17 (by kernel_rfl) (by kernel_rfl) : ((c5 || c12) = true → a.eval (.tmp 48) = undef) ∧ ((c5 || c12) = false → a.eval (.tmp 48) = .bool c16)).2 hc14)
      have k58 : (!(c5 || c12) && c16) = true → a.eval (.tmp 58) = .bool c27 := kn hp ha 58 27 (by kernel_rfl) (by kernel_rfl)
      clear HKP h16
      cases c16 with
      | true =>
        have x58 := (ev_form a 58).trans (k58 (by rw [hc14]; rfl))
        exact ⟨.bool c27, by go_simp, fun _ => by simp⟩
      | false => exact ⟨.bool false, by go_simp, fun _ => by simp⟩
    · refine st_val rfl (fun l a V hp ha => ?_)
      have x45 := (ev_form a 45).trans (show a.eval (.tmp 45) = .bool (c5 || c12) from kn hp ha 45 14 (by kernel_rfl) (by kernel_rfl))
      have k59 : (!(c5 || c12)) = true → a.eval (.tmp 59) = .bool (c16 && c27) := kn hp ha 59 28 (by kernel_rfl) (by kernel_rfl)
      generalize hC : (c5 || c12) = cc at *
      cases cc with
      | true => exact ⟨.bool true, by go_simp, by simp [FU6, hC]⟩
      | false =>
        have x59 := (ev_form a 59).trans (k59 rfl)
        exact ⟨.bool (c16 && c27), by go_simp, by simp [FU6, hC]⟩
  case hf =>
    intro l a V hp hall
    exact hQ a V hp.nt hp.df (fun t ht => hp.keep t (dstIn (by kernel_rfl) ht)) (hp.good 29 _ 60 rfl rfl (hall 29 (by decide))) hp.j
end Go.Proofs.YtpkgcccbhfdaiaaDoor
namespace Go.Proofs.YtpkgcccbhfdaiaaDoor
open Go Go.RowKit Gs
set_option linter.unusedVariables false
set_option linter.unusedSimpArgs false
set_option maxRecDepth 100000
set_option maxHeartbeats 64000000 in
theorem sTableOf (x : Aig) (u : List Value) (z : Int) (ls : List Int) (lv : Value) (w : World) (hl : szAig x ≤ 1048576) (hr : RAig w 0 x u) (hls : RS 1 RInt w 0 ls lv) :
    Calls Tryd.prog 5 #[.agg u.toArray, .int .i64 z, lv] w fun e w' => e = .returned (.tuple #[.int .i64 (tabI x z ls).1, .int .i64 (tabI x z ls).2]) ∧ Below w.heap.size w w' := by
  have HOK := hide (fun (V : World) (hb : Below w.heap.size w V) => sAigOK x u V hl (hr.later hb))
  obtain ⟨b0, b1, b2, b3, b4, b5⟩ := szAig_parts hl
  obtain ⟨s0, s1, s2, s3, s4, s5, c0, c1, c2, c3, c4, c5, rfl, h3⟩ := hr.open6
  have hcs := ands_cells h3
  obtain ⟨la, lc, hlv⟩ := hls.slice
  subst hlv
  obtain ⟨l0, e0⟩ : ∃ l, l = x.ins.length := ⟨_, rfl⟩
  obtain ⟨l1, e1⟩ : ∃ l, l = x.clocks.length := ⟨_, rfl⟩
  obtain ⟨l2, e2⟩ : ∃ l, l = x.latches.length := ⟨_, rfl⟩
  obtain ⟨l3, e3⟩ : ∃ l, l = x.ands.length := ⟨_, rfl⟩
  obtain ⟨l4, e4⟩ : ∃ l, l = x.outs.length := ⟨_, rfl⟩
  obtain ⟨l5, e5⟩ : ∃ l, l = x.checks.length := ⟨_, rfl⟩
  obtain ⟨N, hN⟩ : ∃ N : Nat, N = 1 + l0 + l2 + l3 := ⟨_, rfl⟩
  have eN : firstN x + x.ands.length = N := by rw [hN, e0, e2, e3]; rfl
  show Calls Tryd.prog 5 #[.agg #[.slice s0 x.ins.length c0, .slice s1 x.clocks.length c1, .slice s2 x.latches.length c2, .slice s3 x.ands.length c3, .slice s4 x.outs.length c4, .slice s5 x.checks.length c5], .int .i64 z, .slice la ls.length lc] w _
  change Hid (∀ (V : World), Below w.heap.size w V → Calls Tryd.prog 15 #[.agg #[.slice s0 x.ins.length c0, .slice s1 x.clocks.length c1, .slice s2 x.latches.length c2, .slice s3 x.ands.length c3, .slice s4 x.outs.length c4, .slice s5 x.checks.length c5]] V _) at HOK
  rw [← e0, ← e1, ← e2, ← e3, ← e4, ← e5] at HOK
  rw [← e0, ← e1, ← e2, ← e3, ← e4, ← e5]
  rw [← aig_same] at HOK
  rw [← e0] at b0
  rw [← e2] at b2
  rw [← e3] at b3
  have HVR : Hid (∀ V : World, Calls Tryd.prog 17 #[.agg #[.slice s0 l0 c0, .slice s1 l1 c1, .slice s2 l2 c2, .slice s3 l3 c3, .slice s4 l4 c4, .slice s5 l5 c5]] V fun e w' => e = .returned (.int .i64 (N : Int)) ∧ Below V.heap.size V w') := hide (fun V => by
    rw [hN]
    exact sVars s0 s1 s2 s3 s4 s5 l0 l1 l2 l3 l4 l5 c0 c1 c2 c3 c4 c5 V b0 b2 b3)
  have HLB : Hid (∀ V : World, Calls Tryd.prog 16 #[.agg #[.slice s0 l0 c0, .slice s1 l1 c1, .slice s2 l2 c2, .slice s3 l3 c3, .slice s4 l4 c4, .slice s5 l5 c5], .int .i64 z] V fun e w' => e = .returned (.bool (litB z N)) ∧ Below V.heap.size V w') := hide (fun V => by
    rw [hN]
    exact sLit s0 s1 s2 s3 s4 s5 l0 l1 l2 l3 l4 l5 c0 c1 c2 c3 c4 c5 z V b0 b2 b3)
  have HC : Hid (∀ V, Below (w.alloc (.cells #[.slice s0 l0 c0, .slice s1 l1 c1, .slice s2 l2 c2, .slice s3 l3 c3, .slice s4 l4 c4, .slice s5 l5 c5] 36)).heap.size (w.alloc (.cells #[.slice s0 l0 c0, .slice s1 l1 c1, .slice s2 l2 c2, .slice s3 l3 c3, .slice s4 l4 c4, .slice s5 l5 c5] 36)) V → B6 36 w (.slice s0 l0 c0) (.slice s1 l1 c1) (.slice s2 l2 c2) (.slice s3 l3 c3) (.slice s4 l4 c4) (.slice s5 l5 c5) V) := hide (fun V h => h)
  have HLC : Hid (∀ V, Below w.heap.size w V → ∀ (j : Nat) l, ls[j]? = some l → ∃ bb oo, la = some ⟨bb, oo, none⟩ ∧ V.cell? ⟨bb, oo + j, none⟩ = some (.int .i64 l)) := hide (fun V hb j l hx => by
    rcases hls.open with ⟨e, _⟩ | ⟨bb, oo, c', hv', _, _, _, he⟩
    · rw [e] at hx; simp at hx
    · injection hv' with e1 e2 e3
      obtain ⟨u, hu, hat, hux⟩ := he j _ hx
      subst hux
      exact ⟨bb, oo, e1, cell_later hb (by simpa using hat.get (j := 0) rfl)⟩)
  cases hok : aigI x
  · have HR : Hid (tabI x z ls = (0, 1)) := hide (by unfold tabI; rw [hok]; rfl)
    rw [hok] at HOK
    clear hr h3 hcs hls hl hok hN eN e0 e1 e2 e3 e4 e5 HLC HC
    go_enter Tryd.func5, Tryd.ntmps5
    go_wp2_with fail
    refine (unhide HOK _ (bal (brf w) _)).mono ?_
    rintro e W1 ⟨rfl, hb1⟩
    have HBF := hide (btr (bal (brf w) _) hb1)
    clear hb1
    go_wp2_with fail
    exact bodyPost_ret (v := .tuple #[.int .i64 0, .int .i64 1]) (by simp [results, Tryd.results5, go_sem]) rfl ⟨by rw [unhide HR], unhide HBF⟩
  have hfit := Fit.of hok
  rw [hok] at HOK
  have HTB := hide (fun (V : World) (hb : Below w.heap.size w V) (v : Nat) (hk : ls.length ≤ 4) (ha : ascT N 0 ls = true) (hv : v < N) => sTable (x := x) (s0 := s0) (s1 := s1) (s2 := s2) (s4 := s4) (s5 := s5) (l1 := l1) (l4 := l4) (l5 := l5) (c0 := c0) (c1 := c1) (c2 := c2) (c3 := c3) (c4 := c4) (c5 := c5) hk e0 e2 e3 eN.symm (by have := hfit.cnt; rw [← eN]; unfold firstN; omega) hfit.ands ha (hls.later RInt.keeps hb) (fun i a hi => by obtain ⟨b, o, h1, h2, h3⟩ := hcs i a hi; exact ⟨b, o, h1, cell_later hb h2, cell_later hb h3⟩) hv)
  have HR : Hid (tabI x z ls = if (litB z N && (decide (ls.length ≤ 4) && ascT N 0 ls)) = true then (match litT ls.length (allT x ls) z with | some t => ((t : Int), (0 : Int)) | none => (0, 8)) else (0, 1)) := hide (by unfold tabI; rw [hok, eN]; rfl)
  have hNb : N ≤ 4194304 := by omega
  clear hr h3 hcs hls hl hok hN eN e0 e1 e2 e3 e4 e5 hfit
  cases hL : litB z N
  · have HR2 : Hid (tabI x z ls = (0, 1)) := hide (by rw [unhide HR, hL]; rfl)
    rw [hL] at HLB
    clear HR hL HTB HLC
    go_enter Tryd.func5, Tryd.ntmps5
    go_wp2_with fail
    refine (unhide HOK _ (bal (brf w) _)).mono ?_
    rintro e W1 ⟨rfl, hb1⟩
    have HX1 := hide (unhide HC _ hb1)
    obtain ⟨q0, q1, q2, q3, q4, q5⟩ := (unhide HX1).get
    clear hb1
    go_wp2_with fail
    refine (unhide HLB _).mono ?_
    rintro e W2 ⟨rfl, hb2⟩
    have HBF := hide (((unhide HX1).then hb2).below)
    clear hb2
    go_wp2_with fail
    exact bodyPost_ret (v := .tuple #[.int .i64 0, .int .i64 1]) (by simp [results, Tryd.results5, go_sem]) rfl ⟨by rw [unhide HR2], unhide HBF⟩
  obtain ⟨hz0, hz1⟩ := litB_true hL
  rw [hL] at HLB HR
  by_cases hk : ls.length ≤ 4
  case neg =>
    have HR2 : Hid (tabI x z ls = (0, 1)) := hide (by rw [unhide HR, decide_eq_false hk]; rfl)
    have hg : decide ((ls.length : Int) > 4) = true := decide_eq_true (by omega)
    clear HR hL HTB HLC hk hz0 hz1
    go_enter Tryd.func5, Tryd.ntmps5
    go_wp2_with fail
    refine (unhide HOK _ (bal (brf w) _)).mono ?_
    rintro e W1 ⟨rfl, hb1⟩
    have HX1 := hide (unhide HC _ hb1)
    obtain ⟨q0, q1, q2, q3, q4, q5⟩ := (unhide HX1).get
    clear hb1
    go_wp2_with fail
    refine (unhide HLB _).mono ?_
    rintro e W2 ⟨rfl, hb2⟩
    have HBF := hide (((unhide HX1).then hb2).below)
    clear hb2
    go_wp2_with fail
    exact bodyPost_ret (v := .tuple #[.int .i64 0, .int .i64 1]) (by simp [results, Tryd.results5, go_sem]) rfl ⟨by rw [unhide HR2], unhide HBF⟩
  have HR3 : Hid (tabI x z ls = if ascT N 0 ls = true then (match litT ls.length (allT x ls) z with | some t => ((t : Int), (0 : Int)) | none => (0, 8)) else (0, 1)) := hide (by rw [unhide HR, decide_eq_true hk]; rfl)
  have hg : decide ((ls.length : Int) > 4) = false := decide_eq_false (by omega)
  obtain ⟨m, hm⟩ : ∃ m : Nat, z = m := ⟨z.toNat, by omega⟩
  subst hm
  clear HR hL
  go_enter Tryd.func5, Tryd.ntmps5
  go_wp2_with fail
  refine (unhide HOK _ (bal (brf w) _)).mono ?_
  rintro e W1 ⟨rfl, hb1⟩
  have HX1 := hide (unhide HC _ hb1)
  obtain ⟨q0, q1, q2, q3, q4, q5⟩ := (unhide HX1).get
  clear hb1
  go_wp2_with fail
  refine (unhide HLB _).mono ?_
  rintro e W2 ⟨rfl, hb2⟩
  have HX2 := hide ((unhide HX1).then hb2)
  clear hb2 q0 q1 q2 q3 q4 q5 HX1 HOK HLB HC
  go_wp2_with fail
  go_loopw [8] (fun i wr => ∃ (j : Nat) (p : Int), j ≤ ls.length ∧ i = .int .i64 j ∧ 0 ≤ p ∧ (j = 0 → p = 0) ∧ (∀ q, j = q + 1 → ls[q]? = some p) ∧ ascT N 0 ls = ascT N p (ls.drop j) ∧ B6 36 w (.slice s0 l0 c0) (.slice s1 l1 c1) (.slice s2 l2 c2) (.slice s3 l3 c3) (.slice s4 l4 c4) (.slice s5 l5 c5) wr) (fun i wr => ls.length - (intOf i).toNat)
  case atStart => exact ⟨0, 0, Nat.zero_le _, rfl, Int.le_refl _, fun _ => rfl, fun q h => by omega, rfl, unhide HX2⟩
  case round =>
    obtain ⟨j, p, hj, rfl, hp0, hpz, hpq, ha, hX⟩ := hrel
    have HX := hide hX
    clear hX HX2
    by_cases hlt : j < ls.length
    · have hx : ls[j]? = some ls[j] := List.getElem?_eq_getElem hlt
      have hdr : ls.drop j = ls[j] :: ls.drop (j + 1) := List.drop_eq_getElem_cons hlt
      generalize ls[j] = l at hx hdr
      rw [hdr] at ha
      simp only [ascT] at ha
      obtain ⟨bb, oo, hla, k0⟩ := unhide HLC _ (unhide HX).below j l hx
      have i1 : (j : Int) < (ls.length : Int) := by omega
      have i3 : (0 : Int) ≤ (j : Int) := by omega
      have HKL := hide k0
      have HKP : Hid (decide ((j : Int) > 0) = true → IntKind.i64.wrap ((j : Int) - 1) = ((j - 1 : Nat) : Int) ∧ ((j - 1 : Nat) : Int) < (ls.length : Int) ∧ wr.cell? ⟨bb, oo + (j - 1), none⟩ = some (.int .i64 p)) := hide (fun h => by
        have hjp : (j : Int) > 0 := of_decide_eq_true h
        refine ⟨by rw [wrap_small _ (by omega) (by omega)]; omega, by omega, ?_⟩
        obtain ⟨bb', oo', h1, h2⟩ := unhide HLC _ (unhide HX).below (j - 1) p (hpq (j - 1) (by omega))
        rw [hla] at h1
        injection h1 with h1
        injection h1 with h1 h3
        subst h1 h3
        exact h2)
      subst hla
      have HAS : Hid (((decide (l < 1) || decide (l ≥ (N : Int))) || (decide ((j : Int) > 0) && decide (p ≥ l))) = !(decide (p < l) && decide (l < (N : Int)))) := hide (by
        rw [Bool.eq_iff_iff]
        simp only [Bool.or_eq_true, Bool.and_eq_true, decide_eq_true_eq, Bool.not_eq_true', Bool.and_eq_false_iff, decide_eq_false_iff_not]
        by_cases hj0 : j = 0
        · have := hpz hj0
          omega
        · omega)
      have HA := hide ha
      have HXX := hide hx
      have HP := hide (And.intro hp0 hj)
      clear ha hdr hx k0 hpz hpq hp0 hj
      go_wp2_with fail
      refine sReg6 (w := w) (lf := l) (lp := p) (ip := j - 1) (c5 := decide (l < 1)) (c12 := decide (l ≥ (N : Int))) (c16 := decide ((j : Int) > 0)) (c27 := decide (p ≥ l)) rfl HX HVR HKL HKP rfl rfl rfl rfl i3 i1 _ rfl rfl rfl rfl ?_
      intro a V hnt hdf hkeep h60 hbV
      obtain ⟨us, rfl, hus⟩ := putAll_of [31, 32, 33, 34, 35, 36, 37, 38, 39, 40, 41, 42, 43, 44, 45, 46, 47, 48, 49, 50, 51, 52, 53, 54, 55, 56, 57, 58, 59, 60] hnt hdf hkeep
      have hu60 : us 60 = .bool (!(decide (p < l) && decide (l < (N : Int)))) := by rw [← unhide HAS]; exact (hus 60).trans h60
      have HXV := hide ((unhide HX).then hbV)
      clear hnt hdf hkeep hus h60 hbV HAS HKL HKP HX
      simp only [putAll, List.foldl, Act.put, List.setIfInBounds_toArray, List.set_cons_zero, List.set_cons_succ, hu60]
      clear hu60
      generalize us 31 = y31 at *
      generalize us 32 = y32 at *
      generalize us 33 = y33 at *
      generalize us 34 = y34 at *
      generalize us 35 = y35 at *
      generalize us 36 = y36 at *
      generalize us 37 = y37 at *
      generalize us 38 = y38 at *
      generalize us 39 = y39 at *
      generalize us 40 = y40 at *
      generalize us 41 = y41 at *
      generalize us 42 = y42 at *
      generalize us 43 = y43 at *
      generalize us 44 = y44 at *
      generalize us 45 = y45 at *
      generalize us 46 = y46 at *
      generalize us 47 = y47 at *
      generalize us 48 = y48 at *
      generalize us 49 = y49 at *
      generalize us 50 = y50 at *
      generalize us 51 = y51 at *
      generalize us 52 = y52 at *
      generalize us 53 = y53 at *
      generalize us 54 = y54 at *
      generalize us 55 = y55 at *
      generalize us 56 = y56 at *
      generalize us 57 = y57 at *
      generalize us 58 = y58 at *
      generalize us 59 = y59 at *
      cases hbd : (decide (p < l) && decide (l < (N : Int)))
      · have HR4 : Hid (tabI x (m : Int) ls = (0, 1)) := hide (by rw [unhide HR3, unhide HA, hbd]; rfl)
        have HBF := hide (unhide HXV).below
        clear HR3 HA HXX HTB HLC HVR hbd HXV
        go_wp2_with fail
        exact bodyPost_ret (v := .tuple #[.int .i64 0, .int .i64 1]) (by simp [results, Tryd.results5, go_sem]) rfl ⟨by rw [unhide HR4], unhide HBF⟩
      · have HA2 : Hid (ascT N 0 ls = ascT N l (ls.drop (j + 1))) := hide (by rw [unhide HA, hbd]; rfl)
        have HL0 : Hid (0 ≤ l) := hide (by
          rw [Bool.and_eq_true, decide_eq_true_eq] at hbd
          have := (unhide HP).1
          omega)
        have HPN : Hid (∀ q, j + 1 = q + 1 → ls[q]? = some l) := hide (fun q h => by rw [show q = j by omega]; exact unhide HXX)
        clear hbd HA
        go_wp2_with fail
        go_roundw
        case rel => exact ⟨j + 1, l, by omega, by go_num, unhide HL0, (fun h => by omega), unhide HPN, unhide HA2, unhide HXV⟩
        case measure => simp [intOf]; omega
    · obtain rfl : j = ls.length := by omega
      have hasc : ascT N 0 ls = true := by rw [ha, List.drop_length]; rfl
      have HR4 : Hid (tabI x (m : Int) ls = (match litT ls.length (allT x ls) (m : Int) with | some t => ((t : Int), (0 : Int)) | none => (0, 8))) := hide (by rw [unhide HR3, if_pos hasc])
      have HTV := hide (unhide HTB wr (unhide HX).below (m / 2) hk hasc (by omega))
      obtain ⟨q0, q1, q2, q3, q4, q5⟩ := (unhide HX).get
      have HK := hide hk
      have hdv : (m : Int) / 2 = ((m / 2 : Nat) : Int) := by omega
      have HDV := hide hdv
      have em : ((m : Int) / 2).toNat = m / 2 := by omega
      have HEM := hide em
      have hm4 : m ≤ 8388608 := by omega
      clear ha hpz hpq hp0 hj HTB HLC HVR HR3 hasc hk hdv em hz0 hz1
      go_wp2_with fail
      rw [unhide HDV]
      refine (unhide HTV).mono ?_
      rintro e V ⟨r, ok, rfl, hr1, hr2, hr3, hbV⟩
      have HBF := hide (btr (unhide HX).below hbV)
      clear hbV HTV q0 q1 q2 q3 q4 q5
      cases ok
      · have HR5 : Hid (tabI x (m : Int) ls = (0, 8)) := hide (by rw [unhide HR4, litT_of (t := none) (by rw [unhide HEM]; exact hr3 rfl)]; rfl)
        clear HR4 hr2 hr3
        go_wp2_with fail
        exact bodyPost_ret (v := .tuple #[.int .i64 0, .int .i64 8]) (by simp [results, Tryd.results5, go_sem]) rfl ⟨by rw [unhide HR5], unhide HBF⟩
      · have HT5 := hide (hr2 rfl)
        have HX2 := hide (neg_s (unhide HK) hr1)
        have HMK := hide (fun V => sMask ls.length (unhide HK) V)
        clear hr2 hr3
        rcases Nat.mod_two_eq_zero_or_one m with ha | ha
        · have ea : (m : Int) % 2 = 0 := by omega
          have HR5 : Hid (tabI x (m : Int) ls = ((r : Int), 0)) := hide (by rw [unhide HR4, litT_of (t := some r) (by rw [unhide HEM]; exact unhide HT5)]; simp [ea])
          clear HR4 ha
          go_wp2_with fail
          exact bodyPost_ret (v := .tuple #[.int .i64 (r : Int), .int .i64 0]) (by simp [results, Tryd.results5, go_sem]) rfl ⟨by rw [unhide HR5], unhide HBF⟩
        · have ea : (m : Int) % 2 = 1 := by omega
          have HR5 : Hid (tabI x (m : Int) ls = (((negT ls.length r : Nat) : Int), 0)) := hide (by rw [unhide HR4, litT_of (t := some r) (by rw [unhide HEM]; exact unhide HT5)]; simp [ea])
          have hx2 := unhide HX2
          clear HR4 ha
          generalize negT ls.length r = nr at *
          go_wp2_with (first | (go_at_call 19; refine (unhide HMK _).mono ?_; rintro e W1 ⟨rfl, hW1⟩; have hW2 := hW1.symm; clear hW1; subst hW2))
          exact bodyPost_ret (v := .tuple #[.int .i64 (nr : Int), .int .i64 0]) (by simp [results, Tryd.results5, go_sem]) rfl ⟨by rw [unhide HR5], unhide HBF⟩
end Go.Proofs.YtpkgcccbhfdaiaaDoor
