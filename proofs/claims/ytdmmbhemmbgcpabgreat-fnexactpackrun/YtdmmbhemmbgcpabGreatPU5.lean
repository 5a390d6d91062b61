/- The program's unpacked. -/
import Derived.Test.YtdmmbhemmbgcpabGreatPU4
import Derived.Test.YtdmmbhemmbgcpabGreatGQ16
import Derived.Test.YtdmmbhemmbgcpabGreatGPC
import Derived.Test.YtdmmbhemmbgcpabGreatGFB
namespace Go.Proofs.YtdmmbhemmbgcpabGreat
open Go Go.RowKit Gs
set_option linter.unusedVariables false
set_option linter.unusedSimpArgs false
set_option maxRecDepth 100000
theorem make_int129 (n : Nat) (hn : n ≤ 4194304) : ∃ M : Array Value, M.toList = List.replicate n (.int .i64 0) ∧ ∀ W : World, (Instr.makeSlice 129 (.int .i64 (n : Int)) (.int .i64 (n : Int))).run Tryz.prog W = .ok (.slice (some ⟨W.heap.size, 0, none⟩) n n) (W.alloc (.cells M 3)) := by
  obtain ⟨i0, hi, hz0, hz1, hz2⟩ := info_parts info3
  refine ⟨madeCells #[.int .i64 0] n, ?_, fun W => ?_⟩
  · refine List.ext_getElem? fun i => ?_
    rw [Array.getElem?_toList, List.getElem?_replicate]
    by_cases h : i < n
    · simp [madeCells, h, Nat.mod_one]
    · simp [madeCells, h]
  · have hr := run_make (P := Tryz.prog) W 129 3 i0 _ Tryz.underlying129 hi hz0 .i64 .i64 n n (by omega) (Int.le_refl _) (by rw [hz2]; omega) (by omega)
    rw [hr, hz1]
    simp
    rfl
theorem OI.shapeN {B : Nat} {W : World} {v : Value} {xs : List Int} (h : OI B W v xs) : ∃ a c, v = .slice a xs.length c := by
  rcases h.2 with ⟨e, h0⟩ | ⟨g, cap, cur, e, _⟩
  · exact ⟨none, 0, by rw [e, h0]⟩
  · exact ⟨_, _, e⟩
theorem BW.zeros {W : World} {M : Array Value} {n : Nat} (hM : M.toList = List.replicate n (.int .i64 0)) : BW (W.alloc (.cells M 3)) W.heap.size (List.replicate n 0) := by
  refine ⟨by simp, TB.new _ _ _, fun i x hx => ?_⟩
  rw [List.getElem?_replicate] at hx
  split at hx
  · injection hx with hx
    subst hx
    have hi : M[i]? = some (.int .i64 0) := by
      rw [← Array.getElem?_toList, hM, List.getElem?_replicate, if_pos (by assumption)]
    refine ⟨by rw [World.cell?_alloc_new]; exact hi, frozen_of_row _ _ _ _ _ (heap_alloc_new W _)⟩
  · cases hx
theorem numsB_nodup (bs : List Block) {q q' : Nat} {j : Int} (h : (numsB bs true bs.length ++ numsB bs false bs.length)[q]? = some j) (h' : (numsB bs true bs.length ++ numsB bs false bs.length)[q']? = some j) : q = q' := by
  have key : ∀ q, (numsB bs true bs.length ++ numsB bs false bs.length)[q]? = some j → ∃ k : Nat, j = (k : Int) ∧ q = (if (bs.getD k blk0).reg = true then (numsB bs true k).length else (numsB bs true bs.length).length + (numsB bs false k).length) := by
    intro q h
    by_cases hq : q < (numsB bs true bs.length).length
    · rw [List.getElem?_append_left hq] at h
      obtain ⟨k, hk, hkl, hr, hi⟩ := numsB_lt bs true _ _ _ h
      exact ⟨k, hk, by rw [if_pos hr]; exact hi⟩
    · rw [List.getElem?_append_right (by omega)] at h
      obtain ⟨k, hk, hkl, hr, hi⟩ := numsB_lt bs false _ _ _ h
      exact ⟨k, hk, by rw [if_neg (by rw [hr]; simp)]; omega⟩
  obtain ⟨k, hk, e⟩ := key q h
  obtain ⟨k', hk', e'⟩ := key q' h'
  obtain rfl : k = k' := by omega
  rw [e, e']
theorem nums_both (bs : List Block) (r r' : Bool) {q : Nat} {j : Int} (h : (numsB bs r bs.length ++ numsB bs r' bs.length)[q]? = some j) : ∃ k : Nat, j = (k : Int) ∧ k < bs.length := by
  rcases List.mem_append.1 (List.mem_of_getElem? h) with h | h
  · obtain ⟨i, hi⟩ := List.getElem?_of_mem h
    obtain ⟨k, hk, hkl, _⟩ := numsB_lt bs r _ _ _ hi
    exact ⟨k, hk, hkl⟩
  · obtain ⟨i, hi⟩ := List.getElem?_of_mem h
    obtain ⟨k, hk, hkl, _⟩ := numsB_lt bs r' _ _ _ hi
    exact ⟨k, hk, hkl⟩
theorem two_built {V : World} {B : Nat} {v1 v2 : Value} {xs ys : List Int} (h1 : OI B V v1 xs) (h2 : OI B V v2 ys) (hx : xs.length ≤ 1048576) (hy : ys.length ≤ 1048576) :
    RS 1 (RL 1 RInt) (V.alloc (.cells #[v1, v2] 64)) 0 [xs, ys] (.slice (some ⟨V.heap.size, 0, none⟩) 2 2) := by
  refine RL_built RInt.keeps V 64 [xs, ys] [v1, v2] rfl (by unfold maxLen; simp) (fun i x v hi hv => ?_)
  match i with
  | 0 =>
    simp at hi hv; subst hi hv
    exact h1.any (by omega)
  | 1 =>
    simp at hi hv; subst hi hv
    exact h2.any (by omega)
  | i + 2 => simp at hi
theorem iCat2 {V : World} {B M : Nat} {v1 v2 : Value} {xs ys : List Int} (h1 : OI B V v1 xs) (h2 : OI B V v2 ys) (hx : xs.length ≤ 1048576) (hy : ys.length ≤ 1048576) (hM : (xs ++ ys).length = M) :
    Calls Tryz.prog 68 #[.slice (some ⟨V.heap.size, 0, none⟩) 2 2] (V.alloc (.cells #[v1, v2] 64)) fun e w' => (∃ a c, e = .returned (.slice a M c) ∧ OI V.heap.size w' (.slice a M c) (xs ++ ys)) ∧ Below V.heap.size V w' := by
  refine (iConcatI [xs, ys] _ _ (by simp) (by simp; omega) (two_built h1 h2 hx hy)).mono ?_
  rintro e w' ⟨⟨v', rfl, ho⟩, hb⟩
  rw [show [xs, ys].flatten = xs ++ ys by simp] at ho
  obtain ⟨a, c, rfl⟩ := ho.shapeN
  rw [hM] at ho ⊢
  exact ⟨⟨a, c, rfl, ho.low2 (by simp)⟩, btr (bal (brf V) _) hb⟩
theorem OI.fx {B g : Nat} {X W3 V : World} {v : Value} {xs : List Int} (h : OI B X v xs) (hb : Below X.heap.size X W3) (hg : X.heap.size ≤ g) (hf : Fx g W3 V) : OI B V v xs :=
  Fx.row (h.later hb) hf (fun e => by have := (World.ownsRow.lt h g e).2; omega)
theorem OI.other {B g : Nat} {W : World} {b o l c : Nat} {xs : List Int} (h : OI B W (.slice (some ⟨b, o, none⟩) l c) xs) (hg : g < B) : b ≠ g := fun e => by
  have := (row_tb h b rfl).1
  omega
theorem LU.kt {B bm t B' : Nat} {W W' : World} {v : Value} {us : List (Value × Int)} {ls : List Lut} {l : List Value} (h : LU B W v us ls) (hk : KT B' bm t W W') (hm : MM W bm l) (ht : 3 ≠ t) (ht2 : 134 ≠ t) : LU B W' v us ls :=
  ⟨row_keep (t' := 134) (k := 2) h.row hk (row_ne (t := 134) (k := 2) h.row hm.tb (by decide)) ht2, h.len, fun i q l h1 h2 => ⟨(h.ins i q l h1 h2).1, (h.ins i q l h1 h2).2.kt hk hm ht⟩⟩
theorem MM.keep {B bm t rb : Nat} {W W' : World} {l : List Value} (h : MM W rb l) (hk : KT B bm t W W') (hne : rb ≠ bm) (ht : 88 ≠ t) : MM W' rb l := (hk.tb h.tb hne ht).trans h
theorem own_slice {W : World} {B t k n : Nat} {v : Value} {xs : List Value} (h : W.ownsRow B t k v n xs) : ∃ s1 s2 s3, v = .slice s1 s2 s3 := by
  rcases h.2 with ⟨e, _⟩ | ⟨_, _, _, e, _⟩
  · exact ⟨_, _, _, e⟩
  · exact ⟨_, _, _, e⟩
/-- What unpacked gives. -/
def UNP {s0 s1 s2 s3 s4 : Option Addr} {l0 c0 l1 c1 l2 c2 l3 c3 l4 c4 : Nat} (B : Nat) (x : Packed) (e : Ending) (w' : World) : Prop := ∃ f v2 v3 v4 v5 us, e = .returned (.agg #[.slice s0 l0 c0, .slice s1 l1 c1, v2, v3, v4, v5]) ∧ Bec x.ins.length x.blocks (numsB x.blocks true x.blocks.length) (numsB x.blocks false x.blocks.length) f ∧ OW 127 4 regC B w' v2 (unpackM x f).regs ∧ LU B w' v3 us (unpackM x f).luts ∧ OP B w' v4 (unpackM x f).outs ∧ OP B w' v5 (unpackM x f).checks
set_option maxHeartbeats 32000000 in
theorem iUnpacked {s0 s1 s2 s3 s4 : Option Addr} {l0 c0 l1 c1 l2 c2 l3 c3 l4 c4 : Nat} (x : Packed) (w : World) (b0 : x.ins.length ≤ 1000000) (b2 : x.blocks.length ≤ 1000000) (b3 : x.outs.length ≤ 1048576) (b4 : x.checks.length ≤ 1048576) (hl0 : l0 = x.ins.length) (h2 : RS 6 RBlock w 0 x.blocks (.slice s2 l2 c2)) (h3 : RS 2 RPort w 0 x.outs (.slice s3 l3 c3)) (h4 : RS 2 RPort w 0 x.checks (.slice s4 l4 c4))
    (hin : ∀ b ∈ x.blocks, b.inp.length ≤ 1048576 ∧ ∀ y ∈ b.inp, 0 ≤ y ∧ y < ((x.ins.length + x.blocks.length : Nat) : Int)) (hou : ∀ q ∈ x.outs, 0 ≤ q.src ∧ q.src < ((x.ins.length + x.blocks.length : Nat) : Int)) (hch : ∀ q ∈ x.checks, 0 ≤ q.src ∧ q.src < ((x.ins.length + x.blocks.length : Nat) : Int)) :
    Calls Tryz.prog 36 #[.agg #[.slice s0 l0 c0, .slice s1 l1 c1, .slice s2 l2 c2, .slice s3 l3 c3, .slice s4 l4 c4]] w fun e w' => UNP (s0 := s0) (s1 := s1) (l0 := l0) (l1 := l1) (c0 := c0) (c1 := c1) (s2 := s2) (s3 := s3) (s4 := s4) (l2 := l2) (l3 := l3) (l4 := l4) (c2 := c2) (c3 := c3) (c4 := c4) w.heap.size x e w' ∧ Below w.heap.size w w' := by
  have hl2 : l2 = x.blocks.length := by
    obtain ⟨a, c, hv, _⟩ := h2
    injection hv with e1 e2 e3
  obtain ⟨N, hN⟩ : ∃ N : Nat, N = x.ins.length + x.blocks.length := ⟨_, rfl⟩
  have HSO : Hid (∀ V : World, Calls Tryz.prog 67 #[.agg #[.slice s0 l0 c0, .slice s1 l1 c1, .slice s2 l2 c2, .slice s3 l3 c3, .slice s4 l4 c4]] V fun e w' => e = .returned (.int .i64 (N : Int)) ∧ Below V.heap.size V w') := hide (fun V => by
    have h := iSources s0 s2 l0 l2 c0 c2 (.slice s1 l1 c1) (.slice s3 l3 c3) (.slice s4 l4 c4) V (by omega) (by omega)
    rw [show l0 + l2 = N by omega] at h
    exact h)
  obtain ⟨W, hW⟩ : ∃ W, W = (w.alloc (.cells #[.slice s0 l0 c0, .slice s1 l1 c1, .slice s2 l2 c2, .slice s3 l3 c3, .slice s4 l4 c4] 36)).alloc (.cells #[.slice none 0 0, .slice none 0 0, .slice none 0 0, .slice none 0 0, .slice none 0 0, .slice none 0 0] 88) := ⟨_, rfl⟩
  have HW : Hid (Below w.heap.size w W) := hide (by rw [hW]; exact bal (bal (brf w) _) _)
  have HPC : Hid (∀ V, Below W.heap.size W V → V.cell? ⟨w.heap.size, 0, none⟩ = some (.slice s0 l0 c0) ∧ V.cell? ⟨w.heap.size, 1, none⟩ = some (.slice s1 l1 c1) ∧ V.cell? ⟨w.heap.size, 2, none⟩ = some (.slice s2 l2 c2) ∧ V.cell? ⟨w.heap.size, 3, none⟩ = some (.slice s3 l3 c3) ∧ V.cell? ⟨w.heap.size, 4, none⟩ = some (.slice s4 l4 c4)) := hide (fun V hV => by
    have hc : ∀ i v, (#[.slice s0 l0 c0, .slice s1 l1 c1, .slice s2 l2 c2, .slice s3 l3 c3, .slice s4 l4 c4] : Array Value)[i]? = some v → W.cell? ⟨w.heap.size, i, none⟩ = some v := fun i v h => by
      rw [hW]
      refine cell_later (bal (brf (w.alloc _)) _) ?_
      rw [World.cell?_alloc_new]; exact h
    exact ⟨cell_later hV (hc 0 _ rfl), cell_later hV (hc 1 _ rfl), cell_later hV (hc 2 _ rfl), cell_later hV (hc 3 _ rfl), cell_later hV (hc 4 _ rfl)⟩)
  have HPT : Hid (TB W w.heap.size 36) := hide (by rw [hW]; exact (TB.new w _ 36).later (bal (brf _) _))
  have HMR : Hid (MM W (w.heap.size + 1) [.slice none 0 0, .slice none 0 0, .slice none 0 0, .slice none 0 0, .slice none 0 0, .slice none 0 0]) := hide (by
    rw [hW]
    have h := heap_alloc_new (w.alloc (.cells #[.slice s0 l0 c0, .slice s1 l1 c1, .slice s2 l2 c2, .slice s3 l3 c3, .slice s4 l4 c4] 36)) (.cells #[.slice none 0 0, .slice none 0 0, .slice none 0 0, .slice none 0 0, .slice none 0 0, .slice none 0 0] 88)
    simpa [MM] using h)
  have HRR := hide (fun (r : Bool) (V : World) (hV : Below W.heap.size W V) => show Calls Tryz.prog 66 #[.agg #[.slice s0 l0 c0, .slice s1 l1 c1, .slice s2 l2 c2, .slice s3 l3 c3, .slice s4 l4 c4], .bool r] V (fun e w' => (∃ v', e = .returned v' ∧ OI w.heap.size w' v' (numsB x.blocks r x.blocks.length)) ∧ Below V.heap.size V w') by
    refine (iBlocksWith s0 s1 s2 s3 s4 l0 l1 l2 l3 l4 c0 c1 c2 c3 c4 x.blocks r V (by omega) (h2.later RBlock.keeps (btr (unhide HW) hV))).mono ?_
    rintro e w' ⟨⟨v', rfl, ho⟩, hb⟩
    exact ⟨⟨v', rfl, ho.low2 (btr (unhide HW) hV).size⟩, hb⟩)
  obtain ⟨Mk, hMk, hmk⟩ := make_int129 N (by omega)
  have HMK := hide hMk
  have HRB := hide h2
  have HH3 := hide h3
  have HH4 := hide h4
  have HIN := hide hin
  have HOU := hide hou
  have HCH := hide hch
  have HN := hide hN
  have HW1 := hide hW
  have HL0 := hide hl0
  have HL2 := hide hl2
  clear h2 h3 h4 hin hou hch hMk hN hW hl0 hl2
  go_enter Tryz.func36, Tryz.ntmps36
  go_wp2
  rw [← unhide HW1]
  refine unR1 HPC (hide (fun V hV => unhide HRR true V hV)) (hide (fun V hV => unhide HRR false V hV)) _ rfl rfl ?_
  intro a V2 hnt hdf hkeep hR hT hb2
  obtain ⟨aR, cR, hvR⟩ := hR.shapeN
  obtain ⟨aT, cT, hvT⟩ := hT.shapeN
  obtain ⟨us, rfl, hus⟩ := putAll_of [16, 17, 18, 19, 3, 4] hnt hdf hkeep
  have u3 : us 3 = .slice aR (numsB x.blocks true x.blocks.length).length cR := by rw [hus 3]; exact hvR
  have u4 : us 4 = .slice aT (numsB x.blocks false x.blocks.length).length cT := by rw [hus 4]; exact hvT
  rw [hvR] at hR
  rw [hvT] at hT
  have HR := hide hR
  have HT := hide hT
  have HB2 := hide hb2
  clear hnt hdf hkeep hus hvR hvT hR hT hb2
  simp only [putAll, List.foldl, Act.put, List.setIfInBounds_toArray, List.set_cons_zero, List.set_cons_succ, u3, u4]
  clear u3 u4
  obtain ⟨RL, hRL⟩ : ∃ n, (numsB x.blocks true x.blocks.length).length = n := ⟨_, rfl⟩
  obtain ⟨TL, hTL⟩ : ∃ n, (numsB x.blocks false x.blocks.length).length = n := ⟨_, rfl⟩
  have HRL := hide hRL
  have HTL := hide hTL
  rw [hRL] at HR ⊢
  rw [hTL] at HT ⊢
  clear hRL hTL
  obtain ⟨q0, q1, q2, q3, q4⟩ := unhide HPC V2 (unhide HB2)
  go_wp2_with (first | (go_at_call 67; refine (unhide HSO _).mono ?_; rintro e X3 ⟨rfl, hb⟩; have HB3 := hide hb; have q := cell_later (bal hb (.cells Mk 3)) q0; clear hb))
  clear q0 q1 q2 q3 q4 q hmk
  refine unLoop0 (g := X3.heap.size) (N := N) (n := l0) (bl0 := List.replicate N 0) (by have := unhide HN; have := unhide HL0; omega) (by have := unhide HN; omega) (by simp) (hide (BW.zeros (unhide HMK))) ?_
  intro y6 y26 y27 y28 y29 y30 y31 y32 y33 bl1 V4 hlen1 hbw1 hin1 hfx1
  have hb3 : Below V2.heap.size V2 (X3.alloc (.cells Mk 3)) := bal (unhide HB3) _
  have hgs : V2.heap.size ≤ X3.heap.size := (unhide HB3).size
  have hws : W.heap.size ≤ V2.heap.size := (unhide HB2).size
  have hb4 : Below W.heap.size W V4 := hfx1.below (btr (unhide HB2) hb3) (by omega) (by have := hb3.size; omega)
  have HB4 := hide hb4
  have HR4 := hide ((unhide HR).fx hb3 hgs hfx1)
  have HT4 := hide ((unhide HT).fx hb3 hgs hfx1)
  have HNR : Hid ((.slice aR RL cR : Value).ownBlock ≠ some X3.heap.size ∧ (.slice aT TL cT : Value).ownBlock ≠ some X3.heap.size) := hide ⟨fun e => by have := (World.ownsRow.lt (unhide HR) _ e).2; omega, fun e => by have := (World.ownsRow.lt (unhide HT) _ e).2; omega⟩
  have HBW1 := hide hbw1
  have HIN1 := hide hin1
  have HPG : Hid (w.heap.size ≠ X3.heap.size ∧ W.heap.size ≤ X3.heap.size ∧ w.heap.size + 1 < W.heap.size) := hide (by
    have := (unhide HMR).lt
    exact ⟨by omega, by omega, this⟩)
  obtain ⟨g, hg⟩ : ∃ g, g = X3.heap.size := ⟨_, rfl⟩
  rw [← hg] at HBW1 HPG HNR ⊢
  clear hb3 hgs hws hfx1 HR HT hbw1 hin1 hb4 HB3 HB2 hg
  obtain ⟨ML, hML⟩ : ∃ n, (numsB x.blocks true x.blocks.length ++ numsB x.blocks false x.blocks.length).length = n := ⟨_, rfl⟩
  have HML := hide hML
  have HMLb : Hid (ML = l2 ∧ RL ≤ 1000000 ∧ TL ≤ 1000000 ∧ RL + TL = l2 ∧ l2 ≤ 1000000) := hide (by
    have h1 := numsB_two x.blocks x.blocks.length
    have := unhide HRL; have := unhide HTL; have := unhide HL2
    rw [List.length_append] at hML
    omega)
  have HBL := hide hlen1
  clear hML hlen1
  go_wp2_with (first | (go_at_call 68; refine (iCat2 (unhide HR4) (unhide HT4) (by have := unhide HRL; have := unhide HMLb; omega) (by have := unhide HTL; have := unhide HMLb; omega) (unhide HML)).mono ?_; rintro e X5 ⟨⟨aL, cL, rfl, ho⟩, hb⟩; have HB5 := hide hb; have HO5 := hide ho; clear hb ho))
  refine unLoop2 (g := g) (N := N) (n := l0) (pb := w.heap.size) (ML := ML) (cL := cL) (aL := aL) (s0 := s0) (c0 := c0) (bl0 := bl1) (L := numsB x.blocks true x.blocks.length ++ numsB x.blocks false x.blocks.length) (by have := unhide HN; have := unhide HL0; omega) (by have := unhide HN; omega) (unhide HBL) (hide ((unhide HBW1).later (unhide HB5))) (unhide HML) (by have := unhide HMLb; omega) HIN1 (hide ⟨(unhide HPC X5 (btr (unhide HB4) (unhide HB5))).1, (unhide HPG).1⟩) (hide (fun q j h => by
    obtain ⟨k, hk, hkl⟩ := nums_both x.blocks true false h
    exact ⟨k, hk, by have := unhide HN; have := unhide HL0; omega⟩)) (hide (fun q q' j h h' => numsB_nodup x.blocks h h')) (hide (fun q j h => by
    obtain ⟨b, o, e, hc, hcell⟩ := (unhide HO5).cells (by have := unhide HML; have := unhide HMLb; omega) h
    subst e
    exact ⟨b, o, rfl, hc, (unhide HO5).other (unhide HBW1).lt, hcell⟩)) ?_
  intro y7 y8 y39 y40 y41 y42 y43 y44 y45 y46 y47 y48 y49 y50 y51 y52 y53 y54 y55 y56 bl2 V6 hlen2 hbw2 hin2 hat2 hfx2
  have hs5 := (unhide HB5).size
  have hb6 : Below W.heap.size W V6 := hfx2.below (btr (unhide HB4) (unhide HB5)) (unhide HPG).2.1 (by have := (unhide HB4).size; omega)
  have hg4 := (unhide HBW1).lt
  have hb45 : Below V4.heap.size V4 X5 := unhide HB5
  have HB6 := hide hb6
  have hk5 : Fx g V4 V6 := (Fx.of hb45).trans hfx2
  have HR6 : Hid (OI w.heap.size V6 (.slice aR RL cR) (numsB x.blocks true x.blocks.length)) := hide (Fx.row (unhide HR4) hk5 (unhide HNR).1)
  have HT6 : Hid (OI w.heap.size V6 (.slice aT TL cT) (numsB x.blocks false x.blocks.length)) := hide (Fx.row (unhide HT4) hk5 (unhide HNR).2)
  have HBEC : Hid (Bec x.ins.length x.blocks (numsB x.blocks true x.blocks.length) (numsB x.blocks false x.blocks.length) (becF bl2)) := hide ⟨fun i hi => by
      have h := hin2 i (by have := unhide HL0; omega)
      unfold becF
      rw [Int.toNat_natCast, List.getD_eq_getElem?_getD, h]; rfl, fun q j h => by
      obtain ⟨k, rfl, hkl⟩ := nums_both x.blocks true false h
      have h2 := hat2 q k h
      rw [unhide HL0] at h2
      unfold becF
      rw [show ((x.ins.length : Int) + (k : Int)).toNat = x.ins.length + k by omega, List.getD_eq_getElem?_getD, h2]; rfl⟩
  have HBW2 := hide hbw2
  have HLEN2 := hide hlen2
  clear hs5 hb6 hg4 hb45 hk5 hfx2 hin2 hat2 hbw2 hlen2 HR4 HT4 HBW1 HIN1 HB4 HB5 HO5 HNR HBL HMK
  have HPX : Hid (∀ V, Below V6.heap.size V6 V → Calls Tryz.prog 69 #[.slice (some ⟨g, 0, none⟩) N N, .slice s3 l3 c3] V fun e w' => (∃ v', e = .returned v' ∧ OP w.heap.size w' v' (x.outs.map (fun q : Port => (⟨q.name, becF bl2 q.src⟩ : Port)))) ∧ Below V.heap.size V w') := hide (fun V hV => by
    have hbV := btr (btr (unhide HW) (unhide HB6)) hV
    have h := iPorts g bl2 x.outs (.slice s3 l3 c3) V (by have := unhide HLEN2; have := unhide HN; omega) b3 (fun q hq => by rw [unhide HLEN2, unhide HN]; exact unhide HOU q hq) ((unhide HH3).later RPort.keeps hbV) ((unhide HBW2).be.later hV)
    rw [unhide HLEN2] at h
    refine h.mono ?_
    rintro e w' ⟨⟨v', rfl, ho⟩, hb⟩
    exact ⟨⟨v', rfl, ho.low hbV.size⟩, hb⟩)
  have HPY : Hid (∀ V, Below V6.heap.size V6 V → Calls Tryz.prog 69 #[.slice (some ⟨g, 0, none⟩) N N, .slice s4 l4 c4] V fun e w' => (∃ v', e = .returned v' ∧ OP w.heap.size w' v' (x.checks.map (fun q : Port => (⟨q.name, becF bl2 q.src⟩ : Port)))) ∧ Below V.heap.size V w') := hide (fun V hV => by
    have hbV := btr (btr (unhide HW) (unhide HB6)) hV
    have h := iPorts g bl2 x.checks (.slice s4 l4 c4) V (by have := unhide HLEN2; have := unhide HN; omega) b4 (fun q hq => by rw [unhide HLEN2, unhide HN]; exact unhide HCH q hq) ((unhide HH4).later RPort.keeps hbV) ((unhide HBW2).be.later hV)
    rw [unhide HLEN2] at h
    refine h.mono ?_
    rintro e w' ⟨⟨v', rfl, ho⟩, hb⟩
    exact ⟨⟨v', rfl, ho.low hbV.size⟩, hb⟩)
  clear HH3 HH4 HOU HCH
  go_wp2
  refine unR13 (hide (fun V hV => unhide HPC V (btr (unhide HB6) hV))) HPX HPY _ rfl rfl rfl ?_
  intro a V7 hnt hdf hkeep hA
  obtain ⟨bm, v4, v5, h9, hbm, hmm, hop, hoc, hb7⟩ := hA
  obtain ⟨us7, rfl, hus⟩ := putAll_of [57, 58, 59, 60, 61, 62, 63, 64, 65, 66, 67, 68, 69, 9] hnt hdf hkeep
  have u9 : us7 9 = .pointer (some ⟨bm, 0, none⟩) := by rw [hus 9]; exact h9
  have HR7 := hide ((unhide HR6).later hb7)
  have HT7 := hide ((unhide HT6).later hb7)
  have HM7 := hide hmm
  have HO7 := hide hop
  have HC7 := hide hoc
  have HB7 := hide (btr (unhide HB6) hb7)
  have HBW7 := hide ((unhide HBW2).later hb7)
  have HBM : Hid (W.heap.size ≤ bm ∧ w.heap.size ≤ bm) := hide (by
    have := (unhide HB6).size
    have := (unhide HW).size
    omega)
  clear hnt hdf hkeep hus h9 hbm hmm hop hoc hb7 HR6 HT6 HB6 HBW2 HPX HPY
  simp only [putAll, List.foldl, Act.put, List.setIfInBounds_toArray, List.set_cons_zero, List.set_cons_succ, u9]
  clear u9
  obtain ⟨ML2, hML2⟩ : ∃ n, (numsB x.blocks false x.blocks.length ++ numsB x.blocks true x.blocks.length).length = n := ⟨_, rfl⟩
  have HML2 := hide hML2
  have HMLc : Hid (ML2 = l2) := hide (by
    have := unhide HRL; have := unhide HTL; have := unhide HMLb
    rw [List.length_append] at hML2
    omega)
  clear hML2
  go_wp2_with (first | (go_at_call 68; refine (iCat2 (unhide HT7) (unhide HR7) (by have := unhide HTL; have := unhide HMLb; omega) (by have := unhide HRL; have := unhide HMLb; omega) (unhide HML2)).mono ?_; rintro e X8 ⟨⟨aM, cM, rfl, ho⟩, hb⟩; have HB8 := hide hb; have HO8 := hide ho; clear hb ho))
  refine unLoop4 (w := w) (g := g) (M := N) (pb := w.heap.size) (bm := bm) (ML := ML2) (cL := cM) (aL := aM) (s2 := s2) (l2 := l2) (c2 := c2) (bl := bl2) (bs := x.blocks) (L := numsB x.blocks false x.blocks.length ++ numsB x.blocks true x.blocks.length) (by have := unhide HLEN2; have := unhide HN; omega) (unhide HLEN2) (unhide HML2) (by have := unhide HMLc; have := unhide HMLb; omega) (by omega) (hide (btr (unhide HW) (btr (unhide HB7) (unhide HB8)))) HRB (hide (unhide HPC X8 (btr (unhide HB7) (unhide HB8))).2.2.1) (hide ((unhide HPT).later (btr (unhide HB7) (unhide HB8)))) (hide ⟨((unhide HBW7).later (unhide HB8)).be, ((unhide HBW7).later (unhide HB8)).tb⟩) (hide ((unhide HO8).low2 (by have := (unhide HW).size; have := (unhide HB7).size; omega))) (hide (fun q j h => nums_both x.blocks false true h)) (hide (fun b hb => by
    rw [unhide HLEN2, unhide HN]; exact unhide HIN b hb)) (hide ((unhide HM7).later (unhide HB8))) (hide (unhide HBM).2) ?_
  intro y11 y12 y75 y76 y77 y78 y79 y80 y81 y82 y83 y84 y85 y86 y87 y88 y89 y90 y91 y92 y93 y94 y95 y96 vl us9 V9 hk9 hm9 hlu
  have HK9 := hide hk9
  have HM9 := hide hm9
  have HU9 := hide hlu
  have hm8 := (unhide HM7).later (unhide HB8)
  have HR9 : Hid (OI w.heap.size V9 (.slice aR RL cR) (numsB x.blocks true x.blocks.length)) := hide (((unhide HR7).later (unhide HB8)).kt hk9 hm8 (by decide))
  have HO9 := hide (((unhide HO7).later (unhide HB8)).kt hk9 hm8 (by decide))
  have HC9 := hide (((unhide HC7).later (unhide HB8)).kt hk9 hm8 (by decide))
  have hpb : w.heap.size ≠ bm := by have := (unhide HBM).1; have := (unhide HPG).2.2; omega
  have hrb : w.heap.size + 1 ≠ bm := by have := (unhide HBM).1; have := (unhide HPG).2.2; omega
  have hb8 := btr (unhide HB7) (unhide HB8)
  have HPT9 := hide (((unhide HPT).later hb8).keep hk9 hpb (by decide))
  have HP9 : Hid (V9.cell? ⟨w.heap.size, 0, none⟩ = some (.slice s0 l0 c0) ∧ V9.cell? ⟨w.heap.size, 1, none⟩ = some (.slice s1 l1 c1) ∧ V9.cell? ⟨w.heap.size, 2, none⟩ = some (.slice s2 l2 c2) ∧ V9.cell? ⟨w.heap.size, 3, none⟩ = some (.slice s3 l3 c3) ∧ V9.cell? ⟨w.heap.size, 4, none⟩ = some (.slice s4 l4 c4)) := hide (by
    have hpc : ∀ o, V9.cell? ⟨w.heap.size, o, none⟩ = X8.cell? ⟨w.heap.size, o, none⟩ := fun o => (heap_cell (hk9.tb ((unhide HPT).later hb8) hpb (by decide))).1
    rw [hpc, hpc, hpc, hpc, hpc]; exact unhide HPC X8 hb8)
  have HMR9 : Hid (MM V9 (w.heap.size + 1) [.slice none 0 0, .slice none 0 0, .slice none 0 0, .slice none 0 0, .slice none 0 0, .slice none 0 0]) := hide ((show MM X8 (w.heap.size + 1) [.slice none 0 0, .slice none 0 0, .slice none 0 0, .slice none 0 0, .slice none 0 0, .slice none 0 0] from (hb8.block _ (unhide HMR).lt).trans (unhide HMR)).keep hk9 hrb (by decide))
  have HB9 : Hid (Below w.heap.size w V9) := hide (hk9.below (btr (unhide HW) hb8) (Nat.le_refl _) (unhide HBM).2 (btr (unhide HW) hb8).size)
  clear hk9 hm9 hlu hm8 hpb hb8 HR7 HT7 HM7 HO7 HC7 HB7 HBW7 HO8 HB8 HK9 HPT HPC HRR HMR
  go_wp2
  refine unLoop6 (w := w) (pb := w.heap.size) (bm := bm) (N := N) (ML := RL) (cL := cR) (aL := aR) (l0 := l0) (c0 := c0) (l1 := l1) (c1 := c1) (l2 := l2) (c2 := c2) (l3 := l3) (c3 := c3) (l4 := l4) (c4 := c4) (s0 := s0) (s1 := s1) (s2 := s2) (s3 := s3) (s4 := s4) (L := numsB x.blocks true x.blocks.length) (bs := x.blocks) (by have := unhide HN; omega) (unhide HRL) (by have := unhide HMLb; omega) (by omega) HB9 HRB HP9 HPT9 HR9 (hide (fun q j h => by
    obtain ⟨k, hk, hkl, _⟩ := numsB_lt x.blocks true _ _ _ h
    exact ⟨k, hk, hkl⟩)) HSO HM9 (hide (unhide HBM).2) ?_
  intro y13 y14 y15 y99 y100 y101 y102 y103 y104 y105 y106 y107 y108 y109 y110 y111 y112 y113 y114 y115 y116 y117 y118 y119 y120 y121 y122 y123 y124 y125 y126 vr V10 hk10 hm10 hor
  have hrb : w.heap.size + 1 ≠ bm := by have := (unhide HBM).1; have := (unhide HPG).2.2; omega
  have hmr := (unhide HMR9).keep hk10 hrb (by decide)
  have HB10 := hide (hk10.below (unhide HB9) (Nat.le_refl _) (unhide HBM).2 (unhide HB9).size)
  have HU10 := hide ((unhide HU9).kt hk10 (unhide HM9) (by decide) (by decide))
  have HO10 := hide ((unhide HO9).kt hk10 (unhide HM9) (by decide))
  have HC10 := hide ((unhide HC9).kt hk10 (unhide HM9) (by decide))
  have HR10 := hide hor
  have m0 := hm10.cell 0
  have m1 := hm10.cell 1
  have m2 := hm10.cell 2
  have m3 := hm10.cell 3
  have m4 := hm10.cell 4
  have m5 := hm10.cell 5
  have d0 := hmr.cell 0
  have d1 := hmr.cell 1
  have d2 := hmr.cell 2
  have d3 := hmr.cell 3
  have d4 := hmr.cell 4
  have d5 := hmr.cell 5
  simp only [List.getElem?_cons_zero, List.getElem?_cons_succ] at m0 m1 m2 m3 m4 m5 d0 d1 d2 d3 d4 d5
  have f0 := hmr.frozen 0
  have f1 := hmr.frozen 1
  have f2 := hmr.frozen 2
  have f3 := hmr.frozen 3
  have f4 := hmr.frozen 4
  have f5 := hmr.frozen 5
  have HMR10 := hide hmr
  obtain ⟨p1, p2, p3, rfl⟩ := (unhide HO10).shape
  obtain ⟨r1, r2, r3, rfl⟩ := (unhide HC10).shape
  obtain ⟨t1, t2, t3, rfl⟩ := own_slice (unhide HU10).row
  obtain ⟨o1, o2, o3, rfl⟩ := own_slice (unhide HR10)
  clear hk10 hm10 hor hrb hmr HR9 HU9 HO9 HC9 HPT9 HP9 HMR9 HB9 HM9 HSO
  go_wp2
  obtain ⟨V11, hV⟩ : ∃ V, V = ((((((V10.setCell ⟨w.heap.size + 1, 0, none⟩ (.slice s0 l0 c0)).setCell ⟨w.heap.size + 1, 1, none⟩ (.slice s1 l1 c1)).setCell ⟨w.heap.size + 1, 2, none⟩ (.slice o1 o2 o3)).setCell ⟨w.heap.size + 1, 3, none⟩ (.slice t1 t2 t3)).setCell ⟨w.heap.size + 1, 4, none⟩ (.slice p1 p2 p3)).setCell ⟨w.heap.size + 1, 5, none⟩ (.slice r1 r2 r3)) := ⟨_, rfl⟩
  rw [← hV]
  have hk : KT w.heap.size (w.heap.size + 1) 0 V10 V11 := by
    rw [hV]
    exact (((((KT.set 0 V10 _).trans (KT.set 1 _ _)).trans (KT.set 2 _ _)).trans (KT.set 3 _ _)).trans (KT.set 4 _ _)).trans (KT.set 5 _ _)
  have hm : MM V11 (w.heap.size + 1) [.slice s0 l0 c0, .slice s1 l1 c1, .slice o1 o2 o3, .slice t1 t2 t3, .slice p1 p2 p3, .slice r1 r2 r3] := by
    rw [hV]
    exact ((((((unhide HMR10).set 0 _).set 1 _).set 2 _).set 3 _).set 4 _).set 5 _
  have e0 := hm.cell 0
  have e1 := hm.cell 1
  have e2 := hm.cell 2
  have e3 := hm.cell 3
  have e4 := hm.cell 4
  have e5 := hm.cell 5
  simp only [List.getElem?_cons_zero, List.getElem?_cons_succ] at e0 e1 e2 e3 e4 e5
  refine bodyPost_ret (v := .agg #[.slice s0 l0 c0, .slice s1 l1 c1, .slice o1 o2 o3, .slice t1 t2 t3, .slice p1 p2 p3, .slice r1 r2 r3]) (by simp [results, Tryz.results36, go_sem, e0, e1, e2, e3, e4, e5]) rfl ⟨⟨becF bl2, _, _, _, _, us9, rfl, unhide HBEC, ?_, (unhide HU10).kt hk (unhide HMR10) (by decide) (by decide), (unhide HO10).kt hk (unhide HMR10) (by decide), (unhide HC10).kt hk (unhide HMR10) (by decide)⟩, hk.below (unhide HB10) (Nat.le_refl _) (Nat.le_succ _) (unhide HB10).size⟩
  rw [show (unpackM x (becF bl2)).regs = (numsB x.blocks true x.blocks.length).zipIdx.map (regOf x.blocks N) from by rw [unhide HN]; rfl]
  exact row_keep (t' := 127) (k := 4) (unhide HR10) hk (row_ne (t := 127) (k := 4) (unhide HR10) (unhide HMR10).tb (by decide)) (by decide)
end Go.Proofs.YtdmmbhemmbgcpabGreat
