/- putList: things one behind the other, each by a closure. -/
import Derived.Test.YtaamibonpmijaabAW5
import Derived.Test.YtaamibonpmijaabDD
namespace Go.Proofs.Ytaamibonpmijaab
open Go Go.RowKit Gs
set_option linter.unusedVariables false
set_option linter.unusedSimpArgs false
set_option maxRecDepth 100000
set_option maxHeartbeats 16000000 in
theorem iPutListLatch (w0 : World) (bw c0 : Nat) (ts : List Latch) (v : Value) (xs : List UInt8) (W : World) (I : Nat → World → Prop) (hst : ST w0 bw W xs) (hr : RS 4 RLatch w0 0 ts v) (hk : ts.length ≤ 1048576) (hl : (xs ++ encN ts.length).length ≤ 549755813888)
    (hI0 : ∀ V, ST w0 bw V (xs ++ encN ts.length) → KP [bw] W V → I 0 V) (hIb : ∀ j V, I j V → Below w0.heap.size w0 V)
    (hIs : ∀ (j : Nat) x V, ts[j]? = some x → I j V → Calls Try.prog 52 #[.agg #[.string x.name, .int .i64 x.next, .int .i64 x.init, .int .i64 x.clock], .pointer (some ⟨c0, 0, none⟩)] (V.alloc (.cells #[.string x.name, .int .i64 x.next, .int .i64 x.init, .int .i64 x.clock] 51)) fun e V' => e = .returned (.tuple #[]) ∧ I (j + 1) V') :
    Calls Try.prog 51 #[.pointer (some ⟨bw, 0, none⟩), v, .func (.func 52) #[] #[.pointer (some ⟨c0, 0, none⟩)]] W fun e W' => e = .returned (.tuple #[]) ∧ I ts.length W' := by
  have HNUM := hide (show Calls Try.prog 49 #[.pointer (some ⟨bw, 0, none⟩), .slice (some ⟨W.heap.size, 0, none⟩) 1 1] (W.alloc (.cells #[.int .i64 (ts.length : Int)] 3)) _ from iNumbers w0 bw [ts.length] _ xs _ (hst.alloc _) (fun V _ hV => builtI [ts.length] [bw] W (by simp) (not_in_new hst) V hV) (by intro n hn; simp at hn; subst hn; omega) (by simp) (by simpa using hl))
  have HI0 := hide hI0
  have HIB := hide hIb
  have HIS := hide hIs
  have HRD : Hid (∀ (i : Nat) x, ts[i]? = some x → ∃ b o c, v = .slice (some ⟨b, o, none⟩) ts.length c ∧ w0.cell? ⟨b, o + i * 4, none⟩ = some (.string x.name) ∧ w0.cell? ⟨b, o + i * 4 + 1, none⟩ = some (.int .i64 x.next) ∧ w0.cell? ⟨b, o + i * 4 + 2, none⟩ = some (.int .i64 x.init) ∧ w0.cell? ⟨b, o + i * 4 + 3, none⟩ = some (.int .i64 x.clock)) := hide (by
    intro i x hi
    rcases hr.open with ⟨h, _⟩ | ⟨b, o, c, hv, _, _, _, he⟩
    · rw [h] at hi; simp at hi
    · obtain ⟨u, _, hat, hux⟩ := he i x hi
      unfold RLatch at hux
      obtain ⟨rfl, _⟩ := hux
      exact ⟨b, o, c, hv, by simpa using hat.get (j := 0) rfl, by simpa using hat.get (j := 1) rfl, by simpa using hat.get (j := 2) rfl, by simpa using hat.get (j := 3) rfl⟩)
  obtain ⟨a, c, rfl⟩ := hr.slice
  clear hr hst hl hI0 hIb hIs
  go_enter Try.func51, Try.ntmps51
  go_wp2_with fail
  refine (unhide HNUM).mono ?_
  rintro e W1 ⟨rfl, hst1, hkp1⟩
  have HI := hide (unhide HI0 W1 (by simpa using hst1) (((KP.refl [bw] W).alloc (.cells #[.int .i64 (ts.length : Int)] 3)).trans hkp1))
  clear hst1 hkp1
  go_wp2
  go_loopw [15] (fun i wr => ∃ k : Nat, k ≤ ts.length ∧ i = .int .i64 k ∧ I k wr) (fun i wr => ts.length - (intOf i).toNat)
  case atStart => exact ⟨0, Nat.zero_le _, rfl, unhide HI⟩
  case round =>
    clear HI
    obtain ⟨k, hkk, rfl, hI⟩ := hrel
    by_cases hlt : k < ts.length
    · have hx : ts[k]? = some ts[k] := List.getElem?_eq_getElem hlt
      generalize ts[k] = x at hx
      obtain ⟨b, o, c', hv, k0, k1, k2, k3⟩ := unhide HRD k x hx
      have hbb := unhide HIB k wr hI
      injection hv with e1 e2 e3
      subst e1
      have m0 := cell_later hbb k0
      have m1 := cell_later hbb k1
      have m2 := cell_later hbb k2
      have m3 := cell_later hbb k3
      have HC := hide (unhide HIS k x wr hx hI)
      clear hbb hI hx e2 e3 HRD k0 k1 k2 k3
      generalize x.name = f0 at *
      generalize x.next = f1 at *
      generalize x.init = f2 at *
      generalize x.clock = f3 at *
      go_wp2_with fail
      refine (unhide HC).mono ?_
      rintro e W2 ⟨rfl, hI2⟩
      have HI2 := hide hI2
      clear hI2
      go_wp2_with fail
      go_roundw
      case rel => exact ⟨k + 1, by omega, by go_num, unhide HI2⟩
      case measure => simp [intOf]; omega
    · obtain rfl : k = ts.length := by omega
      have HI := hide hI
      clear hI HRD
      go_wp2
      exact bodyPost_end (v := .tuple #[]) (by simp [results, Try.results51, go_sem]) rfl ⟨rfl, unhide HI⟩
set_option maxHeartbeats 16000000 in
theorem iPutListPin (w0 : World) (bw c0 : Nat) (ts : List Pin) (v : Value) (xs : List UInt8) (W : World) (I : Nat → World → Prop) (hst : ST w0 bw W xs) (hr : RS 2 RPin w0 0 ts v) (hk : ts.length ≤ 1048576) (hl : (xs ++ encN ts.length).length ≤ 549755813888)
    (hI0 : ∀ V, ST w0 bw V (xs ++ encN ts.length) → KP [bw] W V → I 0 V) (hIb : ∀ j V, I j V → Below w0.heap.size w0 V)
    (hIs : ∀ (j : Nat) x V, ts[j]? = some x → I j V → Calls Try.prog 47 #[.agg #[.string x.name, .int .i64 x.lit], .pointer (some ⟨c0, 0, none⟩)] (V.alloc (.cells #[.string x.name, .int .i64 x.lit] 55)) fun e V' => e = .returned (.tuple #[]) ∧ I (j + 1) V') :
    Calls Try.prog 56 #[.pointer (some ⟨bw, 0, none⟩), v, .func (.func 47) #[] #[.pointer (some ⟨c0, 0, none⟩)]] W fun e W' => e = .returned (.tuple #[]) ∧ I ts.length W' := by
  have HNUM := hide (show Calls Try.prog 49 #[.pointer (some ⟨bw, 0, none⟩), .slice (some ⟨W.heap.size, 0, none⟩) 1 1] (W.alloc (.cells #[.int .i64 (ts.length : Int)] 3)) _ from iNumbers w0 bw [ts.length] _ xs _ (hst.alloc _) (fun V _ hV => builtI [ts.length] [bw] W (by simp) (not_in_new hst) V hV) (by intro n hn; simp at hn; subst hn; omega) (by simp) (by simpa using hl))
  have HI0 := hide hI0
  have HIB := hide hIb
  have HIS := hide hIs
  have HRD : Hid (∀ (i : Nat) x, ts[i]? = some x → ∃ b o c, v = .slice (some ⟨b, o, none⟩) ts.length c ∧ w0.cell? ⟨b, o + i * 2, none⟩ = some (.string x.name) ∧ w0.cell? ⟨b, o + i * 2 + 1, none⟩ = some (.int .i64 x.lit)) := hide (by
    intro i x hi
    rcases hr.open with ⟨h, _⟩ | ⟨b, o, c, hv, _, _, _, he⟩
    · rw [h] at hi; simp at hi
    · obtain ⟨u, _, hat, hux⟩ := he i x hi
      unfold RPin at hux
      obtain ⟨rfl, _⟩ := hux
      exact ⟨b, o, c, hv, by simpa using hat.get (j := 0) rfl, by simpa using hat.get (j := 1) rfl⟩)
  obtain ⟨a, c, rfl⟩ := hr.slice
  clear hr hst hl hI0 hIb hIs
  go_enter Try.func56, Try.ntmps56
  go_wp2_with fail
  refine (unhide HNUM).mono ?_
  rintro e W1 ⟨rfl, hst1, hkp1⟩
  have HI := hide (unhide HI0 W1 (by simpa using hst1) (((KP.refl [bw] W).alloc (.cells #[.int .i64 (ts.length : Int)] 3)).trans hkp1))
  clear hst1 hkp1
  go_wp2
  go_loopw [15] (fun i wr => ∃ k : Nat, k ≤ ts.length ∧ i = .int .i64 k ∧ I k wr) (fun i wr => ts.length - (intOf i).toNat)
  case atStart => exact ⟨0, Nat.zero_le _, rfl, unhide HI⟩
  case round =>
    clear HI
    obtain ⟨k, hkk, rfl, hI⟩ := hrel
    by_cases hlt : k < ts.length
    · have hx : ts[k]? = some ts[k] := List.getElem?_eq_getElem hlt
      generalize ts[k] = x at hx
      obtain ⟨b, o, c', hv, k0, k1⟩ := unhide HRD k x hx
      have hbb := unhide HIB k wr hI
      injection hv with e1 e2 e3
      subst e1
      have m0 := cell_later hbb k0
      have m1 := cell_later hbb k1
      have HC := hide (unhide HIS k x wr hx hI)
      clear hbb hI hx e2 e3 HRD k0 k1
      generalize x.name = f0 at *
      generalize x.lit = f1 at *
      go_wp2_with fail
      refine (unhide HC).mono ?_
      rintro e W2 ⟨rfl, hI2⟩
      have HI2 := hide hI2
      clear hI2
      go_wp2_with fail
      go_roundw
      case rel => exact ⟨k + 1, by omega, by go_num, unhide HI2⟩
      case measure => simp [intOf]; omega
    · obtain rfl : k = ts.length := by omega
      have HI := hide hI
      clear hI HRD
      go_wp2
      exact bodyPost_end (v := .tuple #[]) (by simp [results, Try.results56, go_sem]) rfl ⟨rfl, unhide HI⟩
set_option maxHeartbeats 16000000 in
theorem iPutListAndG (w0 : World) (bw c0 c1 : Nat) (ts : List AndG) (v : Value) (xs : List UInt8) (W : World) (I : Nat → World → Prop) (hst : ST w0 bw W xs) (hr : RS 2 RAndG w0 0 ts v) (hk : ts.length ≤ 1048576) (hl : (xs ++ encN ts.length).length ≤ 549755813888)
    (hI0 : ∀ V, ST w0 bw V (xs ++ encN ts.length) → KP [bw] W V → I 0 V) (hIb : ∀ j V, I j V → Below w0.heap.size w0 V)
    (hIs : ∀ (j : Nat) x V, ts[j]? = some x → I j V → Calls Try.prog 55 #[.agg #[.int .i64 x.a, .int .i64 x.b], .pointer (some ⟨c0, 0, none⟩), .pointer (some ⟨c1, 0, none⟩)] (V.alloc (.cells #[.int .i64 x.a, .int .i64 x.b] 53)) fun e V' => e = .returned (.tuple #[]) ∧ I (j + 1) V') :
    Calls Try.prog 54 #[.pointer (some ⟨bw, 0, none⟩), v, .func (.func 55) #[] #[.pointer (some ⟨c0, 0, none⟩), .pointer (some ⟨c1, 0, none⟩)]] W fun e W' => e = .returned (.tuple #[]) ∧ I ts.length W' := by
  have HNUM := hide (show Calls Try.prog 49 #[.pointer (some ⟨bw, 0, none⟩), .slice (some ⟨W.heap.size, 0, none⟩) 1 1] (W.alloc (.cells #[.int .i64 (ts.length : Int)] 3)) _ from iNumbers w0 bw [ts.length] _ xs _ (hst.alloc _) (fun V _ hV => builtI [ts.length] [bw] W (by simp) (not_in_new hst) V hV) (by intro n hn; simp at hn; subst hn; omega) (by simp) (by simpa using hl))
  have HI0 := hide hI0
  have HIB := hide hIb
  have HIS := hide hIs
  have HRD : Hid (∀ (i : Nat) x, ts[i]? = some x → ∃ b o c, v = .slice (some ⟨b, o, none⟩) ts.length c ∧ w0.cell? ⟨b, o + i * 2, none⟩ = some (.int .i64 x.a) ∧ w0.cell? ⟨b, o + i * 2 + 1, none⟩ = some (.int .i64 x.b)) := hide (by
    intro i x hi
    rcases hr.open with ⟨h, _⟩ | ⟨b, o, c, hv, _, _, _, he⟩
    · rw [h] at hi; simp at hi
    · obtain ⟨u, _, hat, hux⟩ := he i x hi
      unfold RAndG at hux
      obtain rfl := hux
      exact ⟨b, o, c, hv, by simpa using hat.get (j := 0) rfl, by simpa using hat.get (j := 1) rfl⟩)
  obtain ⟨a, c, rfl⟩ := hr.slice
  clear hr hst hl hI0 hIb hIs
  go_enter Try.func54, Try.ntmps54
  go_wp2_with fail
  refine (unhide HNUM).mono ?_
  rintro e W1 ⟨rfl, hst1, hkp1⟩
  have HI := hide (unhide HI0 W1 (by simpa using hst1) (((KP.refl [bw] W).alloc (.cells #[.int .i64 (ts.length : Int)] 3)).trans hkp1))
  clear hst1 hkp1
  go_wp2
  go_loopw [15] (fun i wr => ∃ k : Nat, k ≤ ts.length ∧ i = .int .i64 k ∧ I k wr) (fun i wr => ts.length - (intOf i).toNat)
  case atStart => exact ⟨0, Nat.zero_le _, rfl, unhide HI⟩
  case round =>
    clear HI
    obtain ⟨k, hkk, rfl, hI⟩ := hrel
    by_cases hlt : k < ts.length
    · have hx : ts[k]? = some ts[k] := List.getElem?_eq_getElem hlt
      generalize ts[k] = x at hx
      obtain ⟨b, o, c', hv, k0, k1⟩ := unhide HRD k x hx
      have hbb := unhide HIB k wr hI
      injection hv with e1 e2 e3
      subst e1
      have m0 := cell_later hbb k0
      have m1 := cell_later hbb k1
      have HC := hide (unhide HIS k x wr hx hI)
      clear hbb hI hx e2 e3 HRD k0 k1
      generalize x.a = f0 at *
      generalize x.b = f1 at *
      go_wp2_with fail
      refine (unhide HC).mono ?_
      rintro e W2 ⟨rfl, hI2⟩
      have HI2 := hide hI2
      clear hI2
      go_wp2_with fail
      go_roundw
      case rel => exact ⟨k + 1, by omega, by go_num, unhide HI2⟩
      case measure => simp [intOf]; omega
    · obtain rfl : k = ts.length := by omega
      have HI := hide hI
      clear hI HRD
      go_wp2
      exact bodyPost_end (v := .tuple #[]) (by simp [results, Try.results54, go_sem]) rfl ⟨rfl, unhide HI⟩
end Go.Proofs.Ytaamibonpmijaab
