/- The program's byte writer: numbers, names. -/
import Derived.Test.YtaamibonpmijaabAW1
namespace Go.Proofs.Ytaamibonpmijaab
open Go Go.RowKit Gs
set_option linter.unusedVariables false
set_option linter.unusedSimpArgs false
set_option maxRecDepth 100000
theorem flat_take2 {α β : Type} (f : α → List β) (xs : List α) (k : Nat) (x : α) (h : xs[k]? = some x) : (xs.take (k + 1)).flatMap f = (xs.take k).flatMap f ++ f x := by
  rw [List.take_add_one, h, List.flatMap_append]; simp
theorem flat_le2 {α β : Type} (f : α → List β) (xs : List α) (k : Nat) : ((xs.take k).flatMap f).length ≤ (xs.flatMap f).length := by
  have : xs.flatMap f = (xs.take k).flatMap f ++ (xs.drop k).flatMap f := by rw [← List.flatMap_append, List.take_append_drop]
  rw [this, List.length_append]
  omega
theorem OB.shape3 {B : Nat} {v : Value} {xs : List UInt8} {W : World} (h : OB B W v xs) : ∃ a n c, v = .slice a n c := by
  obtain ⟨a, c, h⟩ := h.shape
  exact ⟨_, _, _, h⟩
set_option maxHeartbeats 16000000 in
theorem iNumbers (w0 : World) (bw : Nat) (ns : List Nat) (v : Value) (xs : List UInt8) (W : World) (hst : ST w0 bw W xs) (hr : ∀ V, Below w0.heap.size w0 V → KP [bw] W V → RS 1 RInt V 0 (ns.map Int.ofNat) v) (hn : ∀ n ∈ ns, n ≤ 4611686018427387904) (hk : ns.length ≤ 1048576) (hl : (xs ++ ns.flatMap encN).length ≤ 549755813888) :
    Calls Try.prog 49 #[.pointer (some ⟨bw, 0, none⟩), v] W fun e W' => e = .returned (.tuple #[]) ∧ ST w0 bw W' (xs ++ ns.flatMap encN) ∧ KP [bw] W W' := by
  have hsl : ∃ a c, v = .slice a ns.length c := by
    obtain ⟨a, c, h⟩ := (hr W hst.1 (KP.refl _ _)).slice
    rw [List.length_map] at h
    exact ⟨a, c, h⟩
  have HRD : Hid (∀ V, Below w0.heap.size w0 V → KP [bw] W V → ∀ (i : Nat) n, ns[i]? = some n → ∃ b o c, v = .slice (some ⟨b, o, none⟩) ns.length c ∧ V.cell? ⟨b, o + i, none⟩ = some (.int .i64 (n : Int))) := hide (by
    intro V hb hkp i n hi
    rcases (hr V hb hkp).open with ⟨h, _⟩ | ⟨b, o, c, hv, _, _, _, he⟩
    · rw [List.map_eq_nil_iff] at h; rw [h] at hi; simp at hi
    · obtain ⟨u, _, hat, hu⟩ := he i (Int.ofNat n) (by rw [List.getElem?_map, hi]; rfl)
      subst hu
      rw [List.length_map] at hv
      refine ⟨b, o, c, hv, ?_⟩
      simpa using hat.get (j := 0) rfl)
  have HL := hide hl
  have HN := hide hn
  have HST := hide hst
  obtain ⟨a, c, rfl⟩ := hsl
  clear hr hl hn hst
  go_enter Try.func49, Try.ntmps49
  go_wp2
  go_loopw [8] (fun i wr => ∃ k : Nat, k ≤ ns.length ∧ i = .int .i64 k ∧ ST w0 bw wr (xs ++ (ns.take k).flatMap encN) ∧ KP [bw] W wr) (fun i wr => ns.length - (intOf i).toNat)
  case atStart => exact ⟨0, Nat.zero_le _, rfl, by simpa using unhide HST, KP.refl _ _⟩
  case round =>
    clear HST
    obtain ⟨k, hkk, rfl, hst, hkp⟩ := hrel
    by_cases hlt : k < ns.length
    · have hx : ns[k]? = some ns[k] := List.getElem?_eq_getElem hlt
      have hmem : ns[k] ∈ ns := List.getElem_mem hlt
      generalize ns[k] = n at hx hmem
      have hnn := unhide HN n hmem
      obtain ⟨b, o, c', hv, k0⟩ := unhide HRD wr hst.1 hkp k n hx
      injection hv with e1 e2 e3
      subst e1
      have HTG := hide (show xs ++ (ns.take (k + 1)).flatMap encN = (xs ++ (ns.take k).flatMap encN) ++ encN n by rw [flat_take2 encN ns k n hx, List.append_assoc])
      have HTL := hide (show ((xs ++ (ns.take k).flatMap encN) ++ encN n).length ≤ 549755813888 by
        rw [← unhide HTG, List.length_append]
        have h1 := flat_le2 encN ns (k + 1)
        have h2 := unhide HL
        rw [List.length_append] at h2
        omega)
      have HS := hide hst
      have HK := hide hkp
      clear hst hkp hx hmem HRD HL HN e2 e3
      generalize xs ++ (ns.take k).flatMap encN = pre at *
      obtain ⟨X, rfl⟩ : ∃ X : World, X = wr := ⟨wr, rfl⟩
      go_wp2
      clear k0
      go_loopw [5] (fun vm wr => ∃ (m : Nat) (ys : List UInt8), vm = .int .i64 (m : Int) ∧ m ≤ 4611686018427387904 ∧ ST w0 bw wr ys ∧ ys ++ encN m = pre ++ encN n ∧ KP [bw] W wr) (fun vm wr => (intOf vm).toNat)
      case atStart => exact ⟨n, pre, rfl, hnn, unhide HS, rfl, unhide HK⟩
      case round =>
        obtain ⟨m, ys, rfl, hm, hst, he, hkp⟩ := hrel
        obtain ⟨hb, hbw, vo, hcb, hob⟩ := hst
        have c0 := cell_of (o := 0) hcb rfl
        have HMID := hide (fun (W1 W2 : World) (v' : Value) (zs : List UInt8) (h1 : Below wr.heap.size wr W1) (hg : W1.grownBy W2 vo.ownBlock) (ho2 : OB w0.heap.size W2 v' (ys ++ zs)) => ST_mid hb hbw hcb hob h1 hg ho2)
        have HO := hide hob
        have HSZ := hide hb.size
        have HE := hide he
        have HKP := hide hkp
        have HLY := hide (show ys.length ≤ 549755813888 by have h := congrArg List.length he; rw [List.length_append] at h; have := unhide HTL; omega)
        clear hb hcb hob he hkp
        by_cases hbig : m < 128
        · have q1 : decide ((128 : Int) ≤ (m : Int)) = false := decide_eq_false (by omega)
          have q2 : (m : Int) < 128 := by omega
          have q3 : IntKind.u8.wrap (m : Int) = (m : Int) := by simp [IntKind.wrap, IntKind.signed, IntKind.bits]; omega
          have HU := hide (u8_of (d := m) (by omega))
          have HEE := hide (encN_small hbig)
          clear hbig
          go_wp2_with (first | (at_builtin; refine wpAppB rfl _ _ 29 rfl w0.heap.size _ ys rfl ((unhide HO).alloc _) _ [UInt8.ofNat m] rfl (srcOne wr (UInt8.ofNat m) _ rfl _ (unhide HU).symm) (by have := unhide HLY; simp; omega) (by have := unhide HSZ; simp; omega) ?_; intro v2 w2 ho2 hg2; obtain ⟨sa, sn, sc, hsh⟩ := ho2.shape3; subst hsh; obtain ⟨⟨m1, m2⟩, m3, m4⟩ := unhide HMID _ _ _ _ (bal (brf wr) _) hg2 ho2; have HM3 := hide m3; have HM4 := hide m4; clear m3 m4 ho2 hg2 c0))
          go_roundw
          case rel => exact ⟨k + 1, by omega, by go_num, by rw [unhide HTG, ← unhide HE, unhide HEE]; exact unhide HM3, (unhide HKP).trans (unhide HM4)⟩
          case measure => simp [intOf]; omega
        · obtain ⟨d, hd⟩ : ∃ d, d = m % 128 + 128 := ⟨_, rfl⟩
          obtain ⟨q, hq⟩ : ∃ q, q = m / 128 := ⟨_, rfl⟩
          have q2 : (128 : Int) ≤ (m : Int) := by omega
          have q5 : (m : Int) / 128 = (q : Int) := by omega
          have HU := hide (show (m : Int) % 128 + 128 = ((UInt8.ofNat d).toNat : Int) by rw [u8_of (by omega)]; omega)
          have HEE := hide (show encN m = UInt8.ofNat d :: encN q by rw [encN_big hbig, hd, hq])
          have HQ := hide (show q < m by omega)
          clear hbig hd hq
          go_wp2_with (first | (at_builtin; refine wpAppB rfl _ _ 29 rfl w0.heap.size _ ys rfl ((unhide HO).alloc _) _ [UInt8.ofNat d] rfl (srcOne wr (UInt8.ofNat d) _ rfl _ (unhide HU)) (by have := unhide HLY; simp; omega) (by have := unhide HSZ; simp; omega) ?_; intro v2 w2 ho2 hg2; obtain ⟨sa, sn, sc, hsh⟩ := ho2.shape3; subst hsh; obtain ⟨⟨m1, m2⟩, m3, m4⟩ := unhide HMID _ _ _ _ (bal (brf wr) _) hg2 ho2; have HM3 := hide m3; have HM4 := hide m4; clear m3 m4 ho2 hg2 c0))
          go_roundw
          case rel => exact ⟨q, ys ++ [UInt8.ofNat d], rfl, by have := unhide HQ; omega, unhide HM3, by rw [List.append_assoc, ← unhide HE, unhide HEE]; rfl, (unhide HKP).trans (unhide HM4)⟩
          case measure => have := unhide HQ; simp [intOf]; omega
    · obtain rfl : k = ns.length := by omega
      rw [List.take_of_length_le (Nat.le_refl _)] at hst
      have HS := hide hst
      have HK := hide hkp
      clear hst hkp HRD
      go_wp2
      exact bodyPost_end (v := .tuple #[]) (by simp [results, Try.results49, go_sem]) rfl ⟨rfl, unhide HS, unhide HK⟩
end Go.Proofs.Ytaamibonpmijaab
