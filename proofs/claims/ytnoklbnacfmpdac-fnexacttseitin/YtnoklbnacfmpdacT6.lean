/- The program's cone. -/
import Derived.Test.YtnoklbnacfmpdacT5
import Derived.Test.YtnoklbnacfmpdacLW
namespace Go.Proofs.Ytnoklbnacfmpdac
open Go Go.RowKit Gs
set_option linter.unusedVariables false
set_option linter.unusedSimpArgs false
set_option maxRecDepth 100000
attribute [local go_sem] Oper.semAt_some
def startL (ns : List Bool) (ls : List Int) : List Bool := ls.foldl (fun ns l => ns.set (vN l) true) ns
theorem startL_step {ns : List Bool} {ls : List Int} {k : Nat} {l : Int} (h : ls[k]? = some l) : startL ns (ls.take (k + 1)) = (startL ns (ls.take k)).set (vN l) true := by
  unfold startL
  rw [List.take_add_one, h, Option.toList_some, List.foldl_append]; rfl
theorem startL_len (ns : List Bool) : ∀ (ls : List Int), (startL ns ls).length = ns.length := by
  intro ls
  induction ls generalizing ns with
  | nil => rfl
  | cons l r ih => unfold startL at *; rw [List.foldl_cons, ih]; simp
def coneL (FA : Nat) (xs : List AndG) (ls : List Int) : List Bool := coneD FA xs xs.length (startL (List.replicate (FA + xs.length) false) ls)
theorem coneL_one (FA : Nat) (xs : List AndG) (lit : Int) : coneL FA xs [lit] = coneB FA xs lit := rfl
theorem coneL_len (FA : Nat) (xs : List AndG) (ls : List Int) : (coneL FA xs ls).length = FA + xs.length := by unfold coneL; rw [coneD_len, startL_len]; simp
/-- slices.Backward: it boxes its slice. -/
theorem iBackward (a : Option Addr) (l c : Nat) (w : World) : Calls Try.prog 56 #[.slice a l c] w fun e w' => e = .returned (.func (.func 71) #[] #[.pointer (some ⟨w.heap.size, 0, none⟩)]) ∧ w' = w.alloc (.cells #[.slice a l c] 33) := by
  go_enter Try.func56, Try.ntmps56
  go_wp2
  exact bodyPost_ret (v := .func (.func 71) #[] #[.pointer (some ⟨w.heap.size, 0, none⟩)]) (by simp [results, Try.results56, go_sem]) rfl ⟨rfl, rfl⟩
theorem keepsFrom_below {B : Nat} {W V : World} (h : Below W.heap.size W V) : KeepsFrom B W V := ⟨h.size, fun k o _ hk _ => (h.block k (Array.getElem?_eq_some_iff.1 hk).1).trans hk⟩
theorem AndAt.later {xs : List AndG} {s : Option Addr} {w W : World} (h : AndAt xs s w) (hb : Below w.heap.size w W) : AndAt xs s W := fun i x hx => by
  obtain ⟨b, o, e, h0, h1⟩ := h i x hx
  exact ⟨b, o, e, cell_later hb h0, cell_later hb h1⟩
/-- A block of cells of a type. -/
def TB (W : World) (b : Nat) (t : TypeId) : Prop := ∃ o f, W.heap[b]? = some (.cells o t f)
theorem TB.later {W W' : World} {b : Nat} {t : TypeId} (h : TB W b t) (hb : Below W.heap.size W W') : TB W' b t := by
  obtain ⟨o, f, h⟩ := h
  exact ⟨o, f, (hb.block b (Array.getElem?_eq_some_iff.1 h).1).trans h⟩
theorem TB.near {W W' : World} {b B0 : Nat} {t : TypeId} (h : TB W b t) (hb : Near B0 W W') : TB W' b t := by
  obtain ⟨o, f, h⟩ := h
  exact ⟨o, f, hb.block b _ h (.inr rfl)⟩
theorem TB.set {W : World} {b c o : Nat} {t : TypeId} {v : Value} (h : TB W b t) : TB (W.setCell ⟨c, o, none⟩ v) b t := by
  obtain ⟨p, f, h⟩ := h
  by_cases e : b = c
  · subst e
    have hlt := (Array.getElem?_eq_some_iff.1 h).1
    refine ⟨p.setIfInBounds o v, f, ?_⟩
    unfold World.setCell
    simp only
    rw [Array.getElem?_modify]
    simp [h]
  · exact ⟨p, f, (Below.heap_setCell W ⟨c, o, none⟩ v b e).trans h⟩
theorem TB_new (W : World) (o : Array Value) (t : TypeId) : TB (W.alloc (.cells o t)) W.heap.size t := ⟨o, _, heap_new W _⟩
/-- The cells of a cone that is made. -/
structure CSt (w : World) (b5 : Nat) (s3 : Option Addr) (n c3 FA N : Nat) (W : World) (ns : List Bool) : Prop where
  below : Below w.heap.size w W
  q3 : W.cell? ⟨w.heap.size, 3, none⟩ = some (.slice s3 n c3)
  fa : W.cell? ⟨b5, 0, none⟩ = some (.int .i64 (FA : Int))
  nd : W.cell? ⟨b5 + 1 + 1, 0, none⟩ = some (.slice (some ⟨b5 + 1, 0, none⟩) N N)
  nb : NB (b5 + 1) W ns
  ln : ns.length = N
  ty : TB W w.heap.size 36 ∧ TB W b5 3 ∧ TB W (b5 + 1) 4 ∧ TB W (b5 + 1 + 1) 49
theorem CSt.later {w : World} {b5 n c3 FA N : Nat} {s3 : Option Addr} {W W' : World} {ns : List Bool} (h : CSt w b5 s3 n c3 FA N W ns) (hb : Below W.heap.size W W') : CSt w b5 s3 n c3 FA N W' ns :=
  ⟨btr h.below hb, cell_later hb h.q3, cell_later hb h.fa, cell_later hb h.nd, h.nb.later hb, h.ln, h.ty.1.later hb, h.ty.2.1.later hb, h.ty.2.2.1.later hb, h.ty.2.2.2.later hb⟩
theorem CSt.near {w : World} {b5 n c3 FA N B0 : Nat} {s3 : Option Addr} {W W' : World} {ns : List Bool} (h : CSt w b5 s3 n c3 FA N W ns) (hb : Near B0 W W') (hB : w.heap.size ≤ B0) : CSt w b5 s3 n c3 FA N W' ns :=
  ⟨h.below.trans (hb.under hB h.below.size), hb.cell h.q3, hb.cell h.fa, hb.cell h.nd, h.nb.near hb, h.ln, h.ty.1.near hb, h.ty.2.1.near hb, h.ty.2.2.1.near hb, h.ty.2.2.2.near hb⟩
theorem CSt.set {w : World} {b5 n c3 FA N : Nat} {s3 : Option Addr} {W : World} {ns : List Bool} (h : CSt w b5 s3 n c3 FA N W ns) (hb : w.heap.size < b5) (i : Nat) : CSt w b5 s3 n c3 FA N (W.setCell ⟨b5 + 1, i, none⟩ (.bool true)) (ns.set i true) :=
  ⟨bst h.below (a := ⟨b5 + 1, i, none⟩) (by simp; omega) _,
   by rw [World.cell?_setCell_other (w := W) (a := ⟨b5 + 1, i, none⟩) (b := ⟨w.heap.size, 3, none⟩) (v := .bool true) (ne_addr (.inl (by omega)))]; exact h.q3,
   by rw [World.cell?_setCell_other (w := W) (a := ⟨b5 + 1, i, none⟩) (b := ⟨b5, 0, none⟩) (v := .bool true) (ne_addr (.inl (by omega)))]; exact h.fa,
   by rw [World.cell?_setCell_other (w := W) (a := ⟨b5 + 1, i, none⟩) (b := ⟨b5 + 1 + 1, 0, none⟩) (v := .bool true) (ne_addr (.inl (by omega)))]; exact h.nd,
   h.nb.set i true, by simpa using h.ln, h.ty.1.set, h.ty.2.1.set, h.ty.2.2.1.set, h.ty.2.2.2.set⟩
set_option maxHeartbeats 16000000 in
theorem iCone (s0 s1 s2 s3 s4 s5 : Option Addr) (l0 l1 l2 l4 l5 c0 c1 c2 c3 c4 c5 : Nat) (xs : List AndG) (ls : List Int) (lv : Value) (FA : Nat) (w : World) (hl0 : l0 ≤ 1048576) (hl2 : l2 ≤ 1048576) (hl3 : xs.length ≤ 8192) (h3 : RS 2 RAndG w 0 xs (.slice s3 xs.length c3)) (hF : FA = 1 + l0 + l2) (hFb : FA ≤ 4096) (hao : AO FA xs) (hls : RS 1 RInt w 0 ls lv) (hll : ls.length ≤ 1048576) (hlits : ∀ l ∈ ls, 0 ≤ l ∧ l < 2 * ((FA + xs.length : Nat) : Int)) :
    Calls Try.prog 30 #[.agg #[.slice s0 l0 c0, .slice s1 l1 c1, .slice s2 l2 c2, .slice s3 xs.length c3, .slice s4 l4 c4, .slice s5 l5 c5], lv] w fun e w' => (∃ b b2 b3 g, e = .returned (.func (.func 57) #[] #[.pointer (some ⟨b, 0, none⟩), .pointer (some ⟨b2, 0, none⟩), .pointer (some ⟨b3, 0, none⟩)]) ∧ w'.cell? ⟨b, 3, none⟩ = some (.slice s3 xs.length c3) ∧ w'.cell? ⟨b2, 0, none⟩ = some (.slice (some ⟨g, 0, none⟩) (FA + xs.length) (FA + xs.length)) ∧ w'.cell? ⟨b3, 0, none⟩ = some (.int .i64 (FA : Int)) ∧ NB g w' (coneL FA xs ls) ∧ TB w' b 36 ∧ TB w' b2 49 ∧ TB w' b3 3 ∧ TB w' g 4) ∧ Below w.heap.size w w' := by
  have HCS := hide (AndAt.of h3).2
  have HAO := hide hao
  have HFI := hide (fun V : World => iFirst s0 s2 l0 l2 c0 c2 (.slice s1 l1 c1) (.slice s3 xs.length c3) (.slice s4 l4 c4) (.slice s5 l5 c5) V hl0 hl2)
  rw [← hF] at HFI
  obtain ⟨N, hN⟩ : ∃ N : Nat, N = FA + xs.length := ⟨_, rfl⟩
  have hNb : N ≤ 12288 := by omega
  have hsum : (FA : Int) + (xs.length : Int) = (N : Int) := by omega
  obtain ⟨M, hM1, hM2, hmk⟩ := make_bools 49 Try.underlying49 N (by omega)
  have HMB := hide (fun V : World => NB_made (W := V) hM1 hM2)
  have HNE := hide hN
  have HLS : Hid (∀ (i : Nat) z, ls[i]? = some z → ∃ b o, lv = .slice (some ⟨b, o, none⟩) ls.length ls.length ∨ True) := hide (fun _ _ _ => ⟨0, 0, .inr trivial⟩)
  rw [← hN] at hlits ⊢
  have HLI := hide hlits
  clear h3 hao hF hM1 hM2 hN hlits HLS
  have HCONE : Hid (coneL FA xs ls = coneD FA xs xs.length (startL (List.replicate N false) ls)) := hide (by rw [unhide HNE]; rfl)
  have HLV := hide hls
  obtain ⟨la, lc, rfl⟩ := hls.slice
  have HLA : Hid (∀ (i : Nat) z, ls[i]? = some z → ∃ b o, la = some ⟨b, o, none⟩ ∧ w.cell? ⟨b, o + i, none⟩ = some (.int .i64 z)) := hide (by
    intro i z hz
    rcases (unhide HLV).open with ⟨rfl, _⟩ | ⟨b, o, c', hv, _, _, _, he⟩
    · simp at hz
    · injection hv with e1 e2 e3
      obtain ⟨u, hu, hat, hux⟩ := he i z hz
      subst hux
      exact ⟨b, o, e1, by simpa using hat.get (j := 0) rfl⟩)
  clear hls HLV
  refine (callsIn_wide (n := 6)).1 ?_
  refine callsIn_of_wp_marks Try.func30 rfl trivial ?_ rfl
  refine wpIn_wide.2 ?_
  simp only [Try.ntmps30, List.size_toArray, List.length_cons, List.length_nil, Nat.reduceAdd, Nat.reduceSub, Array.replicate_succ, Array.replicate_zero, List.push_toArray, List.append_toArray, List.nil_append, List.cons_append]
  go_wp2_with fail
  refine (unhide HFI _).mono ?_
  rintro e W1 ⟨rfl, hb1⟩
  have HX1 : Hid (B6 36 w (.slice s0 l0 c0) (.slice s1 l1 c1) (.slice s2 l2 c2) (.slice s3 xs.length c3) (.slice s4 l4 c4) (.slice s5 l5 c5) W1) := hide hb1
  clear hb1 HFI
  obtain ⟨q0, q1, q2, q3, q4, q5⟩ := ((unhide HX1).then (bal (brf W1) (.cells #[.int .i64 (FA : Int)] 3))).get
  go_wp2
  obtain ⟨b5, hb5⟩ : ∃ b, b = W1.heap.size := ⟨_, rfl⟩
  have hw1 := (unhide HX1).size
  have hwb : w.heap.size < b5 := by rw [hb5]; rw [World.size_alloc] at hw1; omega
  have HST : Hid (CSt w b5 s3 xs.length c3 FA N (((W1.alloc (.cells #[.int .i64 (FA : Int)] 3)).alloc (.cells M 4)).alloc (.cells #[.slice (some ⟨b5 + 1, 0, none⟩) N N] 49)) (startL (List.replicate N false) (ls.take 0))) := hide (by
    have e1 : (W1.alloc (.cells #[.int .i64 (FA : Int)] 3)).heap.size = b5 + 1 := by rw [World.size_alloc, hb5]
    have e2 : ((W1.alloc (.cells #[.int .i64 (FA : Int)] 3)).alloc (.cells M 4)).heap.size = b5 + 1 + 1 := by rw [World.size_alloc, e1]
    refine ⟨bal (bal (bal (unhide HX1).below _) _) _, cell_later (bal (bal (brf _) _) _) q3, cell_later (bal (bal (brf _) _) _) (by rw [hb5, World.cell?_alloc_new]; rfl), ?_, ?_, by simp [startL], ?_⟩
    · rw [← e2, World.cell?_alloc_new]; rfl
    · have := (unhide HMB (W1.alloc (.cells #[.int .i64 (FA : Int)] 3))).later (bal (brf _) (.cells #[.slice (some ⟨b5 + 1, 0, none⟩) N N] 49))
      rw [e1] at this
      exact this
    · refine ⟨TB.later ?_ (bal (bal (bal (unhide HX1) _) _) _), TB.later ?_ (bal (bal (brf _) _) _), TB.later ?_ (bal (brf _) _), ?_⟩
      · exact TB_new w _ 36
      · rw [hb5]; exact TB_new W1 _ 3
      · have := TB_new (W1.alloc (.cells #[.int .i64 (FA : Int)] 3)) M 4
        rw [e1] at this
        exact this
      · have := TB_new ((W1.alloc (.cells #[.int .i64 (FA : Int)] 3)).alloc (.cells M 4)) #[.slice (some ⟨b5 + 1, 0, none⟩) N N] 49
        rw [e2] at this
        exact this)
  rw [← hb5]
  clear q0 q1 q2 q3 q4 q5 hw1 HX1 HMB hmk hb5
  go_loopw [21] (fun i wr => ∃ k : Nat, k ≤ ls.length ∧ i = .int .i64 (k : Int) ∧ CSt w b5 s3 xs.length c3 FA N wr (startL (List.replicate N false) (ls.take k))) (fun i wr => ls.length - (intOf i).toNat)
  case atStart => exact ⟨0, Nat.zero_le _, rfl, unhide HST⟩
  case round =>
    obtain ⟨k, hk, rfl, hcs⟩ := hrel
    clear HST
    by_cases hlt : k < ls.length
    · have hx : ls[k]? = some ls[k] := List.getElem?_eq_getElem hlt
      generalize ls[k] = z at hx
      obtain ⟨bb, oo, rfl, hc⟩ := unhide HLA k z hx
      have z0 := cell_later hcs.below hc
      obtain ⟨y0, y1⟩ := unhide HLI z (List.mem_of_getElem? hx)
      have HN := hide (show CSt w b5 s3 xs.length c3 FA N (wr.setCell ⟨b5 + 1, vN z, none⟩ (.bool true)) (startL (List.replicate N false) (ls.take (k + 1))) by rw [startL_step hx]; exact hcs.set hwb (vN z))
      have hv := vN_of y0
      have hvl := vN_lt y0 y1
      have hln := hcs.ln
      obtain ⟨yy, hyy⟩ : ∃ yy, (startL (List.replicate N false) (ls.take k))[vN z]? = some yy := ⟨_, List.getElem?_eq_getElem (by omega)⟩
      obtain ⟨n0, n1⟩ := hcs.nb (vN z) yy hyy
      have q6 := hcs.nd
      have p1 : (0 : Int) ≤ (vN z : Int) := by omega
      have p2 : (vN z : Int) < (N : Int) := by omega
      have i1 : (k : Int) < (ls.length : Int) := by omega
      have i2 : (0 : Int) ≤ (k : Int) := by omega
      have uz : z ≤ 24576 := by omega
      clear hcs hc HLA HLI hx hln hyy y1 HCONE HCS HAO hvl
      generalize vN z = vz at *
      go_wp2
      exact ⟨⟨k + 1, by omega, by go_num, unhide HN⟩, by simp [intOf]; omega⟩
    · obtain rfl : k = ls.length := by omega
      rw [List.take_of_length_le (Nat.le_refl _)] at hcs
      have HCSt := hide hcs
      have q3 := hcs.q3
      clear hcs HLA HLI
      go_wp2_with fail
      refine (iBackward _ _ _ _).mono ?_
      rintro e W2 ⟨rfl, hw2⟩
      subst hw2
      go_wp2_with fail
      have hst0 := unhide HCSt
      have hlen0 : w.heap.size ≤ (wr.alloc (.cells #[.slice s3 xs.length c3] 33)).heap.size := by have := hst0.below.size; rw [World.size_alloc]; omega
      have hpb : b5 + 1 < wr.heap.size := by
        rcases Nat.lt_or_ge (b5 + 1) wr.heap.size with h | h
        · exact h
        · have := hst0.nd
          rw [World.cell?] at this
          simp [Array.getElem?_eq_none (xs := wr.heap) (i := b5 + 1 + 1) (by omega)] at this
      refine (wpIn_wide (n := 6)).1 ?_
      refine wpIn_rangeC (gf := 71) (cs := #[.pointer (some ⟨wr.heap.size, 0, none⟩)]) rfl (by omega) rfl trivial (enters_of Try.func71 (by kernel_rfl) rfl) (iBack 5 wr.heap.size c3 s3 xs hl3 (by omega) _)
        (fun pre V => (∃ ns, CSt w b5 s3 xs.length c3 FA N V ns ∧ coneD FA xs (xs.length - pre.length) ns = coneL FA xs ls) ∧ V.cell? ⟨wr.heap.size, 0, none⟩ = some (.slice s3 xs.length c3) ∧ wr.heap.size < V.heap.size)
        (fun pre V => False)
        (fun s W X h k => ⟨by obtain ⟨ns, h1, h2⟩ := h.1; exact ⟨ns, h1.near k hlen0, h2⟩, k.cell h.2.1, Nat.lt_of_lt_of_le h.2.2 k.size⟩)
        (fun s W X h k => h)
        (fun s W h => ⟨h.2.1, by obtain ⟨ns, h1, h2⟩ := h.1; exact (unhide HCS).later h1.below⟩)
        ⟨⟨_, hst0.later (bal (brf wr) _), (unhide HCONE).symm⟩, by rw [World.cell?_alloc_new]; rfl, by rw [World.size_alloc]; omega⟩
        (fun x h => { tmps := #[.agg #[.slice s0 l0 c0, .slice s1 l1 c1, .slice s2 l2 c2, .slice s3 xs.length c3, .slice s4 l4 c4, .slice s5 l5 c5], .slice la ls.length lc, .pointer (some ⟨w.heap.size, 0, none⟩), undef, .nilFunc, .pointer (some ⟨b5, 0, none⟩), .pointer (some ⟨b5 + 1 + 1, 0, none⟩), undef, u8, .int .i64 (x : Int), .pointer (some ⟨h, 0, none⟩), .agg #[.slice s0 l0 c0, .slice s1 l1 c1, .slice s2 l2 c2, .slice s3 xs.length c3, .slice s4 l4 c4, .slice s5 l5 c5], .int .i64 (FA : Int), .int .i64 (FA : Int), .pointer (some ⟨w.heap.size, 3, none⟩), .slice s3 xs.length c3, .int .i64 (xs.length : Int), .int .i64 (N : Int), .slice (some ⟨b5 + 1, 0, none⟩) N N, .slice la ls.length lc, .int .i64 (ls.length : Int), .int .i64 (ls.length : Int), .bool false, u23, u24, u25, u26, u27, u28, u29, .pointer (some ⟨w.heap.size, 3, none⟩), .slice s3 xs.length c3, .func (.func 71) #[] #[.pointer (some ⟨wr.heap.size, 0, none⟩)], .int .i64 (x : Int), enA xs x, undef, undef, undef, undef, undef, undef, undef, undef, undef, undef, undef, undef, undef, undef, undef, undef, undef], defers := [] })
        (fun pre x h V => ((∃ ns, CSt w b5 s3 xs.length c3 FA N V ns ∧ coneD FA xs (xs.length - pre.length) ns = coneL FA xs ls) ∧ V.cell? ⟨wr.heap.size, 0, none⟩ = some (.slice s3 xs.length c3) ∧ wr.heap.size < V.heap.size) ∧ b5 + 1 < h ∧ ∀ y, xs[x]? = some y → V.cell? ⟨h, 0, none⟩ = some (.int .i64 y.a) ∧ V.cell? ⟨h, 1, none⟩ = some (.int .i64 y.b))
        (fun s x h W X hh k => ⟨⟨by obtain ⟨ns, h1, h2⟩ := hh.1.1; exact ⟨ns, h1.near k hlen0, h2⟩, k.cell hh.1.2.1, Nat.lt_of_lt_of_le hh.1.2.2 k.size⟩, hh.2.1, fun y hy => ⟨k.cell (hh.2.2 y hy).1, k.cell (hh.2.2 y hy).2⟩⟩)
        ?assign ?body ?done ?stop
      case assign =>
        intro l pre x W K hi hY hK
        have hx : xs[x]? = some xs[x] := List.getElem?_eq_getElem (by omega)
        generalize xs[x] = y at hx
        have hk2 := hK W.heap.size (W.alloc (.cells #[.int .i64 y.a, .int .i64 y.b] 54)) (bal (brf W) _) ⟨⟨by obtain ⟨ns, h1, h2⟩ := hi.1; exact ⟨ns, h1.later (bal (brf W) _), h2⟩, cell_later (bal (brf W) _) hi.2.1, by rw [World.size_alloc]; have := hi.2.2; omega⟩, by have := hi.2.2; omega, fun y' hy' => by
          rw [hx] at hy'; cases hy'
          exact ⟨by rw [World.cell?_alloc_new]; rfl, by rw [World.cell?_alloc_new]; rfl⟩⟩
        rw [enA_some hx] at hk2 ⊢
        unfold enI
        clear hK hi
        gi_wp2
        exact hk2
      case body =>
        rintro l pre x h V1 ⟨⟨⟨ns, hst, hcd⟩, hpc, hps⟩, hh, hcl⟩ hY
        have hx : xs[x]? = some xs[x] := List.getElem?_eq_getElem (by omega)
        generalize xs[x] = y at hx
        obtain ⟨z0, z1⟩ := hcl y hx
        obtain ⟨ha1, ha2, hb1, hb2⟩ := unhide HAO x y hx
        have hln := hst.ln
        have hN2 := unhide HNE
        obtain ⟨yn, hnk⟩ : ∃ yn, ns[FA + x]? = some yn := ⟨_, List.getElem?_eq_getElem (by omega)⟩
        obtain ⟨n0, n1⟩ := hst.nb (FA + x) _ hnk
        have q5' := hst.fa
        have q6' := hst.nd
        obtain ⟨m, hm⟩ : ∃ m : Nat, m = FA + x := ⟨_, rfl⟩
        have hsumk : (FA : Int) + (x : Int) = (m : Int) := by omega
        have j1 : (0 : Int) ≤ (m : Int) := by omega
        have j2 : (m : Int) < (N : Int) := by omega
        rw [← hm] at n0 n1
        have hdx : xs.length - pre.length = x + 1 := by omega
        have hdx2 : xs.length - (pre ++ [x]).length = x := by simp; omega
        rw [hdx] at hcd
        cases yn with
        | false =>
          have HI := hide (show (∃ ns, CSt w b5 s3 xs.length c3 FA N V1 ns ∧ coneD FA xs (xs.length - (pre ++ [x]).length) ns = coneL FA xs ls) ∧ V1.cell? ⟨wr.heap.size, 0, none⟩ = some (.slice s3 xs.length c3) ∧ wr.heap.size < V1.heap.size from ⟨⟨ns, hst, by rw [hdx2, ← hcd, coneD, stN_no hx hnk]⟩, hpc, hps⟩)
          clear hst hcl hcd hpc hnk hx ha2 hb2 hN2 hm HAO HCONE hst0 HCSt hln hdx hdx2
          generalize enA xs x = ex at *
          gi_wp2
          exact ⟨keepsFrom_below (brf V1), unhide HI⟩
        | true =>
          obtain ⟨na, hna⟩ : ∃ n, n = vN y.a := ⟨_, rfl⟩
          obtain ⟨nb, hnb'⟩ : ∃ n, n = vN y.b := ⟨_, rfl⟩
          have hva : y.a / 2 = (na : Int) := by rw [hna]; exact vN_of ha1
          have hvb : y.b / 2 = (nb : Int) := by rw [hnb']; exact vN_of hb1
          have hla : na < N := by have := vN_lt ha1 ha2; omega
          have hlb : nb < N := by have := vN_lt hb1 hb2; omega
          have hmk2 : (ns.set na true).set nb true = mkN ns y := by unfold mkN; rw [hna, hnb']
          have hst1 := hst.set hwb na
          have hst2 := hst1.set hwb nb
          rw [hmk2] at hst2
          have c1 : (V1.setCell ⟨b5 + 1, na, none⟩ (.bool true)).cell? ⟨h, 1, none⟩ = some (.int .i64 y.b) := by
            rw [World.cell?_setCell_other (w := V1) (a := ⟨b5 + 1, na, none⟩) (b := ⟨h, 1, none⟩) (v := .bool true) (ne_addr (.inl (by omega)))]; exact z1
          have cpc : ((V1.setCell ⟨b5 + 1, na, none⟩ (.bool true)).setCell ⟨b5 + 1, nb, none⟩ (.bool true)).cell? ⟨wr.heap.size, 0, none⟩ = some (.slice s3 xs.length c3) := by
            rw [World.cell?_setCell_other (w := V1.setCell ⟨b5 + 1, na, none⟩ (.bool true)) (a := ⟨b5 + 1, nb, none⟩) (b := ⟨wr.heap.size, 0, none⟩) (v := .bool true) (ne_addr (.inl (by omega))), World.cell?_setCell_other (w := V1) (a := ⟨b5 + 1, na, none⟩) (b := ⟨wr.heap.size, 0, none⟩) (v := .bool true) (ne_addr (.inl (by omega)))]; exact hpc
          have HI := hide (show (∃ ns, CSt w b5 s3 xs.length c3 FA N ((V1.setCell ⟨b5 + 1, na, none⟩ (.bool true)).setCell ⟨b5 + 1, nb, none⟩ (.bool true)) ns ∧ coneD FA xs (xs.length - (pre ++ [x]).length) ns = coneL FA xs ls) ∧ ((V1.setCell ⟨b5 + 1, na, none⟩ (.bool true)).setCell ⟨b5 + 1, nb, none⟩ (.bool true)).cell? ⟨wr.heap.size, 0, none⟩ = some (.slice s3 xs.length c3) ∧ wr.heap.size < ((V1.setCell ⟨b5 + 1, na, none⟩ (.bool true)).setCell ⟨b5 + 1, nb, none⟩ (.bool true)).heap.size from ⟨⟨mkN ns y, hst2, by rw [hdx2, ← hcd, coneD, stN_yes hx hnk]⟩, cpc, by simpa using hps⟩)
          obtain ⟨ya, hya⟩ : ∃ y, ns[na]? = some y := ⟨_, List.getElem?_eq_getElem (by omega)⟩
          obtain ⟨yb, hyb⟩ : ∃ y, (ns.set na true)[nb]? = some y := ⟨_, List.getElem?_eq_getElem (by simp; omega)⟩
          obtain ⟨y1, y2⟩ := hst.nb na _ hya
          obtain ⟨y3, y4⟩ := hst1.nb nb _ hyb
          have q6b := hst1.nd
          have p1 : (0 : Int) ≤ (na : Int) := by omega
          have p2 : (na : Int) < (N : Int) := by omega
          have p3 : (0 : Int) ≤ (nb : Int) := by omega
          have p4 : (nb : Int) < (N : Int) := by omega
          have ua : y.a ≤ 8388608 := by omega
          have ub : y.b ≤ 8388608 := by omega
          clear hst hst1 hst2 hcl hcd hpc cpc hnk ha2 hb2 hN2 hm HAO HCONE hst0 HCSt hln hdx hdx2 hna hnb' hla hlb hmk2 hya hyb hx hpb hlen0 hsum hNb hps z1 HCS
          generalize y.a = za at *
          generalize y.b = zb at *
          generalize enA xs x = ex at *
          gi_wp2
          exact ⟨((KeepsOthers.setCell _ _ _).from _).trans ((KeepsOthers.setCell _ _ _).from _), unhide HI⟩
      case done =>
        rintro D ys V1 hD hS ⟨⟨ns, hst, hcd⟩, hpc, hps⟩ hK
        rw [hS, Nat.sub_self] at hcd
        have hcd' : ns = coneL FA xs ls := hcd
        subst hcd'
        have HST := hide hst
        clear hst hpc HCS HAO HCONE HCSt hst0
        go_wp2
        refine ⟨by simp, .inl ⟨_, _, rfl, run_takeDeferred hK, ?_⟩⟩
        have hn : Near (wr.alloc (.cells #[.slice s3 xs.length c3] 33)).heap.size V1 (V1.putObj D (.deferred none)) := .turn _ hD hK rfl
        have h5 := (unhide HST).near hn hlen0
        refine ⟨.func (.func 57) #[] #[.pointer (some ⟨w.heap.size, 0, none⟩), .pointer (some ⟨b5 + 1 + 1, 0, none⟩), .pointer (some ⟨b5, 0, none⟩)], ?_, ⟨w.heap.size, b5 + 1 + 1, b5, b5 + 1, rfl, h5.q3, h5.nd, h5.fa, h5.nb, h5.ty.1, h5.ty.2.2.2, h5.ty.2.1, h5.ty.2.2.1⟩, h5.below⟩
        simp [results, Try.results30, go_sem]
      case stop =>
        rintro D ps V1 hD hS hno hK
        exact hno.elim
end Go.Proofs.Ytnoklbnacfmpdac
