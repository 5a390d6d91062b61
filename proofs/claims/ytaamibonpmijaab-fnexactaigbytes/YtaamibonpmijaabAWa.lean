/- The program's byte writer: what it keeps, and what it has written. -/
import Derived.Test.YtaamibonpmijaabAB2
import Derived.Laws.Rows
import Derived.Test.YtaamibonpmijaabAK0
namespace Go.Proofs.Ytaamibonpmijaab
open Go Go.RowKit Gs
set_option linter.unusedVariables false
set_option linter.unusedSimpArgs false
set_option maxRecDepth 100000
/-- The writer in the block bw has written xs. -/
def ST (w0 : World) (bw : Nat) (W : World) (xs : List UInt8) : Prop := Below w0.heap.size w0 W ∧ w0.heap.size ≤ bw ∧ ∃ v, W.heap[bw]? = some (.cells #[v] 62 (0, 0)) ∧ OB w0.heap.size W v xs
theorem ST.alloc {w0 : World} {bw : Nat} {W : World} {xs : List UInt8} (h : ST w0 bw W xs) (o : Obj) : ST w0 bw (W.alloc o) xs := by
  obtain ⟨h1, h2, v, h3, h4⟩ := h
  exact ⟨bal h1 o, h2, v, by rw [Below.heap_alloc W o bw (Array.getElem?_eq_some_iff.1 h3).1]; exact h3, h4.alloc o⟩
theorem ST.later {w0 : World} {bw : Nat} {W V : World} {xs : List UInt8} (h : ST w0 bw W xs) (hb : Below W.heap.size W V) : ST w0 bw V xs := by
  obtain ⟨h1, h2, v, h3, h4⟩ := h
  exact ⟨btr h1 hb, h2, v, (hb.block bw (Array.getElem?_eq_some_iff.1 h3).1).trans h3, h4.later hb⟩
theorem ST_mid {w0 : World} {bw : Nat} {W W1 W2 : World} {xs ys : List UInt8} {v v' : Value} (hb : Below w0.heap.size w0 W) (hw : w0.heap.size ≤ bw) (hc : W.heap[bw]? = some (.cells #[v] 62 (0, 0))) (ho : OB w0.heap.size W v xs) (h1 : Below W.heap.size W W1) (hg : W1.grownBy W2 v.ownBlock) (ho2 : OB w0.heap.size W2 v' (xs ++ ys)) :
    (W2.cell? ⟨bw, 0, none⟩ = some v ∧ W2.frozen? ⟨bw, 0, none⟩ = false) ∧ ST w0 bw (W2.setCell ⟨bw, 0, none⟩ v') (xs ++ ys) ∧ KP [bw] W (W2.setCell ⟨bw, 0, none⟩ v') := by
  have hbw : bw < W.heap.size := (Array.getElem?_eq_some_iff.1 hc).1
  have hold : ∀ (b : Nat) o, W.heap[b]? = some o → notB o → W2.heap[b]? = some o := fun b o hbo hn => by
    have hlt : b < W.heap.size := (Array.getElem?_eq_some_iff.1 hbo).1
    rw [hg.block b (Nat.lt_of_lt_of_le hlt h1.size) (own_not ho hbo hn), h1.block b hlt]
    exact hbo
  have hc2 := hold bw _ hc (notB_cells (by decide))
  have hB2 : Below w0.heap.size w0 W2 := below_grown (btr hb h1) hg (btr hb h1).size ho.row
  refine ⟨⟨cell_of hc2 rfl, froz_of hc2⟩, ⟨hB2.setCell hw v', hw, v', ?_, ?_⟩, ⟨?_, fun b o hbo hn hbs => ?_⟩⟩
  · have := heap_setCell_same W2 bw 0 #[v] 62 v' hc2
    simpa using this
  · obtain ⟨e1, e2 | ⟨g, cap, cur, hv, hg', hcc, rest⟩⟩ := ho2
    · exact ⟨e1, .inl e2⟩
    · refine ⟨e1, .inr ⟨g, cap, cur, hv, hg', ?_, rest⟩⟩
      rw [Below.heap_setCell W2 ⟨bw, 0, none⟩ v' g (fun e => by
        have e' : g = bw := e
        subst e'
        rw [hc2] at hcc
        injection hcc with hcc
        injection hcc with _ hcc _
        cases hcc)]
      exact hcc
  · have := hg.size
    have := h1.size
    simp
    omega
  · rw [Below.heap_setCell W2 ⟨bw, 0, none⟩ v' b (fun e => hbs (by have e' : b = bw := e; rw [e']; exact List.mem_singleton.2 rfl))]
    exact hold b o hbo hn
end Go.Proofs.Ytaamibonpmijaab
namespace Go.Proofs.Ytaamibonpmijaab
open Go Go.RowKit Gs
set_option linter.unusedVariables false
set_option linter.unusedSimpArgs false
set_option maxRecDepth 100000
theorem flat_take2 {α β : Type} (f : α → List β) (xs : List α) (k : Nat) (x : α) (h : xs[k]? = some x) : (xs.take (k + 1)).flatMap f = (xs.take k).flatMap f ++ f x := by
  rw [List.take_add_one, h, List.flatMap_append]; simp
theorem flat_le2 {α β : Type} (f : α → List β) (xs : List α) (k : Nat) : ((xs.take k).flatMap f).length ≤ (xs.flatMap f).length := by
  have : xs.flatMap f = (xs.take k).flatMap f ++ (xs.drop k).flatMap f := by rw [← List.flatMap_append, List.take_append_drop]
  rw [this, List.length_append]
  omega
theorem OB.shape3 {B : Nat} {v : Value} {xs : List UInt8} {W : World} (h : OB B W v xs) : ∃ a n c, v = .slice a n c := by
  obtain ⟨a, c, h⟩ := h.shape
  exact ⟨_, _, _, h⟩
set_option maxHeartbeats 16000000 in
theorem iNumbers (w0 : World) (bw : Nat) (ns : List Nat) (v : Value) (xs : List UInt8) (W : World) (hst : ST w0 bw W xs) (hr : ∀ V, Below w0.heap.size w0 V → KP [bw] W V → RS 1 RInt V 0 (ns.map Int.ofNat) v) (hn : ∀ n ∈ ns, n ≤ 4611686018427387904) (hk : ns.length ≤ 1048576) (hl : (xs ++ ns.flatMap encN).length ≤ 549755813888) :
    Calls Try.prog 49 #[.pointer (some ⟨bw, 0, none⟩), v] W fun e W' => e = .returned (.tuple #[]) ∧ ST w0 bw W' (xs ++ ns.flatMap encN) ∧ KP [bw] W W' := by
  have hsl : ∃ a c, v = .slice a ns.length c := by
    obtain ⟨a, c, h⟩ := (hr W hst.1 (KP.refl _ _)).slice
    rw [List.length_map] at h
    exact ⟨a, c, h⟩
  have HRD : Hid (∀ V, Below w0.heap.size w0 V → KP [bw] W V → ∀ (i : Nat) n, ns[i]? = some n → ∃ b o c, v = .slice (some ⟨b, o, none⟩) ns.length c ∧ V.cell? ⟨b, o + i, none⟩ = some (.int .i64 (n : Int))) := hide (by
    intro V hb hkp i n hi
    rcases (hr V hb hkp).open with ⟨h, _⟩ | ⟨b, o, c, hv, _, _, _, he⟩
    · rw [List.map_eq_nil_iff] at h; rw [h] at hi; simp at hi
    · obtain ⟨u, _, hat, hu⟩ := he i (Int.ofNat n) (by rw [List.getElem?_map, hi]; rfl)
      subst hu
      rw [List.length_map] at hv
      refine ⟨b, o, c, hv, ?_⟩
      simpa using hat.get (j := 0) rfl)
  have HL := hide hl
  have HN := hide hn
  have HST := hide hst
  obtain ⟨a, c, rfl⟩ := hsl
  clear hr hl hn hst
  go_enter Try.func49, Try.ntmps49
  go_wp2
  go_loopw [8] (fun i wr => ∃ k : Nat, k ≤ ns.length ∧ i = .int .i64 k ∧ ST w0 bw wr (xs ++ (ns.take k).flatMap encN) ∧ KP [bw] W wr) (fun i wr => ns.length - (intOf i).toNat)
  case atStart => exact ⟨0, Nat.zero_le _, rfl, by simpa using unhide HST, KP.refl _ _⟩
  case round =>
    clear HST
    obtain ⟨k, hkk, rfl, hst, hkp⟩ := hrel
    by_cases hlt : k < ns.length
    · have hx : ns[k]? = some ns[k] := List.getElem?_eq_getElem hlt
      have hmem : ns[k] ∈ ns := List.getElem_mem hlt
      generalize ns[k] = n at hx hmem
      have hnn := unhide HN n hmem
      obtain ⟨b, o, c', hv, k0⟩ := unhide HRD wr hst.1 hkp k n hx
      injection hv with e1 e2 e3
      subst e1
      have HTG := hide (show xs ++ (ns.take (k + 1)).flatMap encN = (xs ++ (ns.take k).flatMap encN) ++ encN n by rw [flat_take2 encN ns k n hx, List.append_assoc])
      have HTL := hide (show ((xs ++ (ns.take k).flatMap encN) ++ encN n).length ≤ 549755813888 by
        rw [← unhide HTG, List.length_append]
        have h1 := flat_le2 encN ns (k + 1)
        have h2 := unhide HL
        rw [List.length_append] at h2
        omega)
      have HS := hide hst
      have HK := hide hkp
      clear hst hkp hx hmem HRD HL HN e2 e3
      generalize xs ++ (ns.take k).flatMap encN = pre at *
      obtain ⟨X, rfl⟩ : ∃ X : World, X = wr := ⟨wr, rfl⟩
      go_wp2
      clear k0
      go_loopw [5] (fun vm wr => ∃ (m : Nat) (ys : List UInt8), vm = .int .i64 (m : Int) ∧ m ≤ 4611686018427387904 ∧ ST w0 bw wr ys ∧ ys ++ encN m = pre ++ encN n ∧ KP [bw] W wr) (fun vm wr => (intOf vm).toNat)
      case atStart => exact ⟨n, pre, rfl, hnn, unhide HS, rfl, unhide HK⟩
      case round =>
        obtain ⟨m, ys, rfl, hm, hst, he, hkp⟩ := hrel
        obtain ⟨hb, hbw, vo, hcb, hob⟩ := hst
        have c0 := cell_of (o := 0) hcb rfl
        have HMID := hide (fun (W1 W2 : World) (v' : Value) (zs : List UInt8) (h1 : Below wr.heap.size wr W1) (hg : W1.grownBy W2 vo.ownBlock) (ho2 : OB w0.heap.size W2 v' (ys ++ zs)) => ST_mid hb hbw hcb hob h1 hg ho2)
        have HO := hide hob
        have HSZ := hide hb.size
        have HE := hide he
        have HKP := hide hkp
        have HLY := hide (show ys.length ≤ 549755813888 by have h := congrArg List.length he; rw [List.length_append] at h; have := unhide HTL; omega)
        clear hb hcb hob he hkp
        by_cases hbig : m < 128
        · have q1 : decide ((128 : Int) ≤ (m : Int)) = false := decide_eq_false (by omega)
          have q2 : (m : Int) < 128 := by omega
          have q3 : IntKind.u8.wrap (m : Int) = (m : Int) := by simp [IntKind.wrap, IntKind.signed, IntKind.bits]; omega
          have HU := hide (u8_of (d := m) (by omega))
          have HEE := hide (encN_small hbig)
          clear hbig
          go_wp2_with (first | (at_builtin; refine wpAppB rfl _ _ 29 rfl w0.heap.size _ ys rfl ((unhide HO).alloc _) _ [UInt8.ofNat m] rfl (srcOne wr (UInt8.ofNat m) _ rfl _ (unhide HU).symm) (by have := unhide HLY; simp; omega) (by have := unhide HSZ; simp; omega) ?_; intro v2 w2 ho2 hg2; obtain ⟨sa, sn, sc, hsh⟩ := ho2.shape3; subst hsh; obtain ⟨⟨m1, m2⟩, m3, m4⟩ := unhide HMID _ _ _ _ (bal (brf wr) _) hg2 ho2; have HM3 := hide m3; have HM4 := hide m4; clear m3 m4 ho2 hg2 c0))
          go_roundw
          case rel => exact ⟨k + 1, by omega, by go_num, by rw [unhide HTG, ← unhide HE, unhide HEE]; exact unhide HM3, (unhide HKP).trans (unhide HM4)⟩
          case measure => simp [intOf]; omega
        · obtain ⟨d, hd⟩ : ∃ d, d = m % 128 + 128 := ⟨_, rfl⟩
          obtain ⟨q, hq⟩ : ∃ q, q = m / 128 := ⟨_, rfl⟩
          have q2 : (128 : Int) ≤ (m : Int) := by omega
          have q5 : (m : Int) / 128 = (q : Int) := by omega
          have HU := hide (show (m : Int) % 128 + 128 = ((UInt8.ofNat d).toNat : Int) by rw [u8_of (by omega)]; omega)
          have HEE := hide (show encN m = UInt8.ofNat d :: encN q by rw [encN_big hbig, hd, hq])
          have HQ := hide (show q < m by omega)
          clear hbig hd hq
          go_wp2_with (first | (at_builtin; refine wpAppB rfl _ _ 29 rfl w0.heap.size _ ys rfl ((unhide HO).alloc _) _ [UInt8.ofNat d] rfl (srcOne wr (UInt8.ofNat d) _ rfl _ (unhide HU)) (by have := unhide HLY; simp; omega) (by have := unhide HSZ; simp; omega) ?_; intro v2 w2 ho2 hg2; obtain ⟨sa, sn, sc, hsh⟩ := ho2.shape3; subst hsh; obtain ⟨⟨m1, m2⟩, m3, m4⟩ := unhide HMID _ _ _ _ (bal (brf wr) _) hg2 ho2; have HM3 := hide m3; have HM4 := hide m4; clear m3 m4 ho2 hg2 c0))
          go_roundw
          case rel => exact ⟨q, ys ++ [UInt8.ofNat d], rfl, by have := unhide HQ; omega, unhide HM3, by rw [List.append_assoc, ← unhide HE, unhide HEE]; rfl, (unhide HKP).trans (unhide HM4)⟩
          case measure => have := unhide HQ; simp [intOf]; omega
    · obtain rfl : k = ns.length := by omega
      rw [List.take_of_length_le (Nat.le_refl _)] at hst
      have HS := hide hst
      have HK := hide hkp
      clear hst hkp HRD
      go_wp2
      exact bodyPost_end (v := .tuple #[]) (by simp [results, Try.results49, go_sem]) rfl ⟨rfl, unhide HS, unhide HK⟩
end Go.Proofs.Ytaamibonpmijaab
namespace Go.Proofs.Ytaamibonpmijaab
open Go Go.RowKit Gs
set_option linter.unusedVariables false
set_option linter.unusedSimpArgs false
set_option maxRecDepth 100000
/-- A name as bytes. -/
def encT (s : ByteArray) : List UInt8 := encN s.size ++ L s
/-- A slice that was built, in whatever comes behind. -/
theorem built {α : Type} {R : Rd α} (f : α → Value) (hf : ∀ W B x, R W B x [f x]) (t : TypeId) (ht : t ≠ 5) (S : List Nat) (W : World) (xs : List α) (hn : xs.length ≤ maxLen) (hS : W.heap.size ∉ S) (V : World) (h : KP S (W.alloc (.cells (xs.map f).toArray t)) V) :
    RS 1 R V 0 xs (.slice (some ⟨W.heap.size, 0, none⟩) xs.length xs.length) := by
  have hb := h.keep W.heap.size _ (heap_alloc_new W _) (notB_cells ht) hS
  refine ⟨_, _, rfl, Nat.le_refl _, hn, fun _ => ⟨W.heap.size, 0, rfl, Nat.zero_le _, fun i x hx => ⟨[f x], rfl, fun j y hj => ?_, hf _ _ _⟩⟩⟩
  have hj0 : j = 0 := by
    cases j with
    | zero => rfl
    | succ j => simp at hj
  subst hj0
  simp at hj
  subst hj
  refine cell_of hb ?_
  simp [hx]
theorem builtI (ns : List Nat) (S : List Nat) (W : World) (hn : ns.length ≤ 1048576) (hS : W.heap.size ∉ S) (V : World) (h : KP S (W.alloc (.cells (ns.map fun (n : Nat) => Value.int .i64 (n : Int)).toArray 3)) V) :
    RS 1 RInt V 0 (ns.map Int.ofNat) (.slice (some ⟨W.heap.size, 0, none⟩) ns.length ns.length) := by
  have h' : KP S (W.alloc (.cells ((ns.map Int.ofNat).map fun z => Value.int .i64 z).toArray 3)) V := by
    rw [List.map_map]
    exact h
  have := built (R := RInt) (fun z => Value.int .i64 z) (fun _ _ _ => rfl) 3 (by decide) S W (ns.map Int.ofNat) (by rw [List.length_map]; unfold maxLen; omega) hS V h'
  rwa [List.length_map] at this
theorem not_in_new {w0 : World} {bw : Nat} {W : World} {xs : List UInt8} (h : ST w0 bw W xs) : W.heap.size ∉ [bw] := by
  obtain ⟨_, _, v, h3, _⟩ := h
  have := (Array.getElem?_eq_some_iff.1 h3).1
  simp
  omega
set_option maxHeartbeats 16000000 in
theorem iNames (w0 : World) (bw : Nat) (ss : List ByteArray) (v : Value) (xs : List UInt8) (W : World) (hst : ST w0 bw W xs) (hr : ∀ V, Below w0.heap.size w0 V → KP [bw] W V → RS 1 RStr V 0 ss v) (hs : ∀ s ∈ ss, s.size ≤ 1048576) (hk : ss.length ≤ 1048576) (hl : (xs ++ ss.flatMap encT).length ≤ 549755813888) :
    Calls Try.prog 48 #[.pointer (some ⟨bw, 0, none⟩), v] W fun e W' => e = .returned (.tuple #[]) ∧ ST w0 bw W' (xs ++ ss.flatMap encT) ∧ KP [bw] W W' := by
  have hsl := (hr W hst.1 (KP.refl _ _)).slice
  have HRD : Hid (∀ V, Below w0.heap.size w0 V → KP [bw] W V → ∀ (i : Nat) s, ss[i]? = some s → ∃ b o c, v = .slice (some ⟨b, o, none⟩) ss.length c ∧ V.cell? ⟨b, o + i, none⟩ = some (.string s)) := hide (by
    intro V hb hkp i s hi
    rcases (hr V hb hkp).open with ⟨h, _⟩ | ⟨b, o, c, hv, _, _, _, he⟩
    · rw [h] at hi; simp at hi
    · obtain ⟨u, _, hat, hu, _⟩ := he i s hi
      subst hu
      refine ⟨b, o, c, hv, ?_⟩
      simpa using hat.get (j := 0) rfl)
  have HL := hide hl
  have HN := hide hs
  have HST := hide hst
  obtain ⟨a, c, rfl⟩ := hsl
  clear hr hl hs hst
  go_enter Try.func48, Try.ntmps48
  go_wp2
  go_loopw [8] (fun i wr => ∃ k : Nat, k ≤ ss.length ∧ i = .int .i64 k ∧ ST w0 bw wr (xs ++ (ss.take k).flatMap encT) ∧ KP [bw] W wr) (fun i wr => ss.length - (intOf i).toNat)
  case atStart => exact ⟨0, Nat.zero_le _, rfl, by simpa using unhide HST, KP.refl _ _⟩
  case round =>
    clear HST
    obtain ⟨k, hkk, rfl, hst, hkp⟩ := hrel
    by_cases hlt : k < ss.length
    · have hx : ss[k]? = some ss[k] := List.getElem?_eq_getElem hlt
      have hmem : ss[k] ∈ ss := List.getElem_mem hlt
      generalize ss[k] = s at hx hmem
      have hsz := unhide HN s hmem
      obtain ⟨b, o, c', hv, k0⟩ := unhide HRD wr hst.1 hkp k s hx
      injection hv with e1 e2 e3
      subst e1
      have HTG := hide (show xs ++ (ss.take (k + 1)).flatMap encT = (xs ++ (ss.take k).flatMap encT) ++ encT s by rw [flat_take2 encT ss k s hx, List.append_assoc])
      have HTL := hide (show ((xs ++ (ss.take k).flatMap encT) ++ encT s).length ≤ 549755813888 by
        rw [← unhide HTG, List.length_append]
        have h1 := flat_le2 encT ss (k + 1)
        have h2 := unhide HL
        rw [List.length_append] at h2
        omega)
      have HS := hide hst
      have HK := hide hkp
      clear hst hkp hx hmem HRD HL HN e2 e3
      generalize xs ++ (ss.take k).flatMap encT = pre at *
      have HNUM := hide (show Calls Try.prog 49 #[.pointer (some ⟨bw, 0, none⟩), .slice (some ⟨wr.heap.size, 0, none⟩) 1 1] (wr.alloc (.cells #[.int .i64 (s.size : Int)] 3)) _ from iNumbers w0 bw [s.size] _ pre _ ((unhide HS).alloc _) (fun V _ hV => builtI [s.size] [bw] wr (by simp) (not_in_new (unhide HS)) V hV) (by intro n hn; simp at hn; subst hn; omega) (by simp) (by
        have h := unhide HTL
        rw [List.length_append] at h
        unfold encT at h
        rw [List.length_append] at h
        simp
        omega))
      go_wp2_with fail
      refine (unhide HNUM).mono ?_
      rintro e W1 ⟨rfl, hst1, hkp1⟩
      have hpre : pre ++ [s.size].flatMap encN = pre ++ encN s.size := by simp
      rw [hpre] at hst1
      obtain ⟨hb, hbw, vo, hcb, hob⟩ := hst1
      have c0 := cell_of (o := 0) hcb rfl
      have HMID := hide (fun (W2 : World) (v' : Value) (zs : List UInt8) (hg : W1.grownBy W2 vo.ownBlock) (ho2 : OB w0.heap.size W2 v' ((pre ++ encN s.size) ++ zs)) => ST_mid hb hbw hcb hob (brf W1) hg ho2)
      have HO := hide hob
      have HSZ := hide hb.size
      have HK1 := hide (((unhide HK).alloc (.cells #[.int .i64 (s.size : Int)] 3)).trans hkp1)
      have HLL := hide (show (pre ++ encN s.size).length + s.data.toList.length ≤ 549755813888 by
        have h := unhide HTL
        unfold encT L at h
        rw [← List.append_assoc, List.length_append] at h
        exact h)
      clear hb hcb hob hkp1 hpre k0
      obtain ⟨va, vn, vc, hvo⟩ := (unhide HO).shape3
      subst hvo
      go_wp2_with (first | (at_builtin; refine wpAppB rfl _ _ 9 rfl w0.heap.size _ _ rfl (unhide HO) _ s.data.toList rfl (srcStr W1 s) (by have := unhide HLL; omega) (unhide HSZ) ?_; intro v2 w2 ho2 hg2; obtain ⟨sa, sn, sc, hsh⟩ := ho2.shape3; subst hsh; obtain ⟨⟨m1, m2⟩, m3, m4⟩ := unhide HMID _ _ _ hg2 ho2; have HM3 := hide m3; have HM4 := hide m4; clear m3 m4 ho2 hg2 c0))
      go_roundw
      case rel => exact ⟨k + 1, by omega, by go_num, by rw [unhide HTG]; unfold encT L; rw [← List.append_assoc]; exact unhide HM3, (unhide HK1).trans (unhide HM4)⟩
      case measure => simp [intOf]; omega
    · obtain rfl : k = ss.length := by omega
      rw [List.take_of_length_le (Nat.le_refl _)] at hst
      have HS := hide hst
      have HK := hide hkp
      clear hst hkp HRD
      go_wp2
      exact bodyPost_end (v := .tuple #[]) (by simp [results, Try.results48, go_sem]) rfl ⟨rfl, unhide HS, unhide HK⟩
/-- A list of names as bytes. -/
def encL (ss : List ByteArray) : List UInt8 := encN ss.length ++ ss.flatMap encT
set_option maxHeartbeats 16000000 in
theorem iNameList (w0 : World) (bw : Nat) (ss : List ByteArray) (v : Value) (xs : List UInt8) (W : World) (hst : ST w0 bw W xs) (hr : RS 1 RStr w0 0 ss v) (hs : ∀ s ∈ ss, s.size ≤ 1048576) (hk : ss.length ≤ 1048576) (hl : (xs ++ encL ss).length ≤ 549755813888) :
    Calls Try.prog 50 #[.pointer (some ⟨bw, 0, none⟩), v] W fun e W' => e = .returned (.tuple #[]) ∧ ST w0 bw W' (xs ++ encL ss) ∧ KP [bw] W W' := by
  have hl2 : (xs ++ encN ss.length ++ ss.flatMap encT).length ≤ 549755813888 := by
    unfold encL at hl
    rwa [← List.append_assoc] at hl
  have HNUM := hide (show Calls Try.prog 49 #[.pointer (some ⟨bw, 0, none⟩), .slice (some ⟨W.heap.size, 0, none⟩) 1 1] (W.alloc (.cells #[.int .i64 (ss.length : Int)] 3)) _ from iNumbers w0 bw [ss.length] _ xs _ (hst.alloc _) (fun V _ hV => builtI [ss.length] [bw] W (by simp) (not_in_new hst) V hV) (by intro n hn; simp at hn; subst hn; omega) (by simp) (by
    rw [List.length_append] at hl2
    simp at hl2 ⊢
    omega))
  have HNM := hide (fun (V : World) (h : ST w0 bw V (xs ++ encN ss.length)) => iNames w0 bw ss v (xs ++ encN ss.length) V h (fun U hU _ => hr.later RStr.keeps hU) hs hk hl2)
  obtain ⟨a, c, rfl⟩ := hr.slice
  clear hr hst
  go_enter Try.func50, Try.ntmps50
  go_wp2_with fail
  refine (unhide HNUM).mono ?_
  rintro e W1 ⟨rfl, hst1, hkp1⟩
  have HS1 := hide (show ST w0 bw W1 (xs ++ encN ss.length) by simpa using hst1)
  have HK1 := hide (((KP.refl [bw] W).alloc (.cells #[.int .i64 (ss.length : Int)] 3)).trans hkp1)
  clear hst1 hkp1
  go_wp2_with fail
  refine (unhide HNM _ (unhide HS1)).mono ?_
  rintro e W2 ⟨rfl, hst2, hkp2⟩
  have HS2 := hide hst2
  have HK2 := hide ((unhide HK1).trans hkp2)
  clear hst2 hkp2
  go_wp2_with fail
  exact bodyPost_end (v := .tuple #[]) (by simp [results, Try.results50, go_sem]) rfl ⟨rfl, by unfold encL; rw [← List.append_assoc]; exact unhide HS2, unhide HK2⟩
end Go.Proofs.Ytaamibonpmijaab
