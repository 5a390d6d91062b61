/- kidsOf of a look: kids in a row of one's own. -/
import Derived.Test.YtbpcomnneemolaaCKA
import Derived.Test.YtbpcomnneemolaaM6
import Derived.Test.YtbpcomnneemolaaEXI
import Derived.OwnWalk
import Derived.BigQuiet
namespace Go.Proofs.Ytbpcomnneemolaa
open Go.RowKit Gs
set_option linter.unusedVariables false
set_option maxRecDepth 100000
def kkC (x : Int) : List Value := [.int .i64 0, .int .i64 x, .int .i64 0, .bool false, .string ByteArray.empty, .slice none 0 0]
/-- Kids in a row of one's own. -/
def OKd (B : Nat) (v : Value) (ws : List Int) (W : World) : Prop := W.ownsRow B 44 6 v ws.length (ws.flatMap kkC)
theorem OKd.later {B : Nat} {v : Value} {ws : List Int} {W W' : World} (h : OKd B v ws W) (hb : Below W.heap.size W W') : OKd B v ws W' := by
  rcases h with ⟨h1, h2 | ⟨g, cap, cur, hv, hg, hc, rest⟩⟩
  · exact ⟨h1, .inl h2⟩
  · exact ⟨h1, .inr ⟨g, cap, cur, hv, hg, (hb.block g (Array.getElem?_eq_some_iff.1 hc).1).trans hc, rest⟩⟩
theorem OKd.alloc {B : Nat} {v : Value} {ws : List Int} {W : World} (h : OKd B v ws W) (o : Obj) : OKd B v ws (W.alloc o) := World.ownsRow.alloc h o
theorem OKd.nil (B : Nat) (W : World) : OKd B (.slice none 0 0) [] W := ⟨rfl, .inl ⟨rfl, rfl⟩⟩
theorem OKd.shape {B : Nat} {v : Value} {ws : List Int} {W : World} (h : OKd B v ws W) : ∃ a l c, v = .slice a l c := by
  rcases h.2 with ⟨rfl, _⟩ | ⟨g, cap, cur, rfl, _⟩
  · exact ⟨_, _, _, rfl⟩
  · exact ⟨_, _, _, rfl⟩
theorem kkC_get (ws : List Int) (i j : Nat) (x : Int) (hx : ws[i]? = some x) (hj : j < 6) : (ws.flatMap kkC)[i * 6 + j]? = (kkC x)[j]? := by
  induction ws generalizing i with
  | nil => simp at hx
  | cons y ws ih =>
    rw [List.flatMap_cons]
    cases i with
    | zero =>
      simp at hx; subst hx
      rw [List.getElem?_append_left (by simp [kkC]; omega), Nat.zero_mul, Nat.zero_add]
    | succ i =>
      have hl : (kkC y).length = 6 := rfl
      rw [List.getElem?_append_right (by rw [hl]; omega), hl, show (i + 1) * 6 + j - 6 = i * 6 + j by omega]
      exact ih i (by simpa using hx)
theorem OKd.read {B : Nat} {v : Value} {ws : List Int} {W : World} (h : OKd B v ws W) (hl : ws.length ≤ 64) : RS 6 RKid W 0 ws v := by
  have hc := fun g hg => World.ownsRow.cells h (g := g) hg
  rcases h.2 with ⟨rfl, hn⟩ | ⟨g, cap, cur, rfl, hb, hg, hlc, hm, _⟩
  · have : ws = [] := List.length_eq_zero_iff.1 hn
    subst this
    exact RS.nil _ _ _ _ _ _
  · refine ⟨_, _, rfl, hlc, by unfold maxLen; omega, fun _ => ⟨g, 0, rfl, Nat.zero_le _, fun i x hx => ⟨kkC x, rfl, fun j y hj => ?_, rfl⟩⟩⟩
    have hj6 : j < 6 := (List.getElem?_eq_some_iff.1 hj).1
    have := hc g rfl (i * 6 + j) y (by rw [kkC_get ws i j x hx hj6]; exact hj)
    rw [Addr.add_lit] at this
    simpa [Nat.add_assoc] using this
theorem newK (W : World) (x : Int) (g : Nat) (hg : g = W.heap.size) : ∀ j u, (kkC x)[j]? = some u → (W.alloc (.cells #[.int .i64 0, .int .i64 x, .int .i64 0, .bool false, .string ByteArray.empty, .slice none 0 0] 44)).cell? ((⟨g, 0, none⟩ : Addr).add j) = some u := by
  intro j u h
  subst hg
  rw [Addr.add_lit, Nat.zero_add, World.cell?_alloc_new, ← h]
  simp [kkC]
theorem oneK (x : Int) : ∀ u ∈ kkC x, u.oneCell' = true := by
  intro u hu
  simp [kkC] at hu
  rcases hu with rfl | rfl | rfl | rfl | rfl | rfl <;> rfl
theorem OKd.row {B : Nat} {v : Value} {ws : List Int} {W : World} (h : OKd B v ws W) : ∀ j, v.ownBlock = some j → B ≤ j := fun j hj => (World.ownsRow.lt h j hj).1
theorem OKd.step {B : Nat} {v : Value} {ws : List Int} {W : World} {x : Int} (h : W.ownsRow B 44 6 v (ws.length + 1) (ws.flatMap kkC ++ kkC x)) : OKd B v (ws ++ [x]) W := by
  unfold OKd
  rw [List.length_append, List.flatMap_append]
  simpa using h
/-- What a slot must be: 0 where the op does not take it, else one that holds. -/
def slotB (ws : List Int) (T : Nat) (p : Int × Nat) : Bool := if T ≤ p.2 then decide (p.1 = 0) else holdsB ws p.1
def readB (ws : List Int) (T : Nat) (l : List Int) : Bool := l.zipIdx.all (slotB ws T)
def kidW (ws : List Int) (T : Nat) (l : List Int) : List Int := (l.take T).map fun s => ws.getD s.toNat 0
theorem kidW_step {ws : List Int} {T k : Nat} {l : List Int} {s : Int} (hs : l[k]? = some s) (h : k < T) : kidW ws T (l.take (k + 1)) = kidW ws T (l.take k) ++ [ws.getD s.toNat 0] := by
  unfold kidW
  rw [List.take_take, List.take_take, Nat.min_eq_right (by omega), Nat.min_eq_right (by omega), List.take_add_one, hs, List.map_append]
  rfl
theorem kidW_same {ws : List Int} {T k : Nat} {l : List Int} (h : T ≤ k) : kidW ws T (l.take (k + 1)) = kidW ws T (l.take k) := by
  unfold kidW
  rw [List.take_take, List.take_take, Nat.min_eq_left (by omega), Nat.min_eq_left (by omega)]
theorem kidW_len (ws : List Int) (T : Nat) (l : List Int) : (kidW ws T l).length ≤ l.length := by
  unfold kidW
  rw [List.length_map, List.length_take]; omega
theorem all_zip {p : Int × Nat → Bool} {l : List Int} {k : Nat} {s : Int} (hs : l[k]? = some s) : (l.zipIdx.take (k + 1)).all p = ((l.zipIdx.take k).all p && p (s, k)) := by
  have hxz : l.zipIdx[k]? = some (s, k) := by rw [List.getElem?_zipIdx, hs]; simp
  rw [List.take_add_one, hxz, List.all_append]; simp
theorem not_zip {p : Int × Nat → Bool} {l : List Int} {k : Nat} {s : Int} (hs : l[k]? = some s) (h : p (s, k) = false) : l.zipIdx.all p = false := by
  have hxz : l.zipIdx[k]? = some (s, k) := by rw [List.getElem?_zipIdx, hs]; simp
  rw [← Bool.not_eq_true]
  intro e
  rw [List.all_eq_true.1 e _ (List.mem_of_getElem? hxz)] at h
  cases h
theorem takesOf_nat (j : Nat) : ∃ T : Nat, takesOf j = (T : Int) ∧ T ≤ 3 := by
  unfold takesOf
  repeat' split
  · exact ⟨3, rfl, by omega⟩
  · exact ⟨2, rfl, by omega⟩
  · exact ⟨1, rfl, by omega⟩
  · exact ⟨2, rfl, by omega⟩
  · exact ⟨1, rfl, by omega⟩
  · exact ⟨0, rfl, by omega⟩
theorem kidW_nil (ws : List Int) (T : Nat) : kidW ws T [] = [] := by unfold kidW; rw [List.take_nil]; rfl
theorem run_index3 (k : Nat) (M : Array Value) (v : Value) (w : World) (hk : k < 3) (hv : M[k]? = some v) : (Instr.index 116 (.agg M) (.int .i64 (k : Int))).run Try.prog w = .ok v w := by
  have h0 : (0 : Int) ≤ (k : Int) ∧ (k : Int) < ((3 : Nat) : Int) := by omega
  have c9 : (sizeOf 3).run Try.prog w = .ok 1 w := by kernel_rfl
  simp [Instr.index, run_underlying Try.underlying116, asIntOf, h0, go_sem, hv, c9]
  intro h; omega
theorem OKd.frame {t : TypeId} {W W1 W2 : World} {vs : Array Value} {v : Value} {xs : List Int} (hX : Bt t W vs W1) (ho : OKd (W.heap.size + 1) v xs W1) (hg : W1.grownBy W2 v.ownBlock) : Bt t W vs W2 := by
  have e : (W.alloc (.cells vs t)).heap.size = W.heap.size + 1 := by go_simp
  unfold Bt at *
  refine Below.grown hX hg (Below.size hX) (fun j hj => ?_)
  rw [e]; exact ho.row j hj
set_option maxHeartbeats 16000000 in
theorem iKids (W : World) (b : Nat) (c : Code) (v1 v2 v4 v5 v6 v7 v8 : Value) (wb : Nat) (ws : List Int) (h : Lk W b c v1 v2 v4 v5 v6 v7 v8 wb ws) (x : Instr) (j : Nat) (hop : x.op = (j : Int)) (hj : j < 35) (T : Nat) (hT : takesOf j = (T : Int)) :
    Calls Try.prog 52 #[.pointer (some ⟨b, 0, none⟩), .agg (IV x)] W fun e w' => (∃ a l c, e = .returned (.tuple #[.slice a l c, .bool (readB ws T [x.a, x.b, x.c])]) ∧ (readB ws T [x.a, x.b, x.c] = true → RS 6 RKid w' 0 (kidW ws T [x.a, x.b, x.c]) (.slice a l c))) ∧ Below W.heap.size W w' := by
  have hkd := h.kinds j hj
  rw [hT] at hkd
  have HK := hide (fun (V : World) (hb : Below W.heap.size W V) => cell_later hb hkd)
  have HWD := hide (fun (V : World) (hb : Below W.heap.size W V) => cell_later hb h.widths)
  have HAT := hide (fun (V : World) (hb : Below W.heap.size W V) => (fun (i : Nat) y (hy : ws[i]? = some y) => cell_later hb (h.at_ i y hy)))
  have HO := hide (fun (V : World) (hb : Below W.heap.size W V) (s : Int) => iHolds V b c v1 v2 v4 v5 v6 v7 v8 wb ws (h.later hb) s)
  have hfew := h.few
  clear h hkd hT
  generalize hR : readB ws T [x.a, x.b, x.c] = R
  have HN := hide (show ∀ (k : Nat) (s : Int), [x.a, x.b, x.c][k]? = some s → slotB ws T (s, k) = false → false = R from fun k s hs h => by rw [← hR]; exact (not_zip hs h).symm)
  have HY := hide (show ([x.a, x.b, x.c].zipIdx.take 3).all (slotB ws T) = true → true = R from fun h => by rw [← hR]; exact h.symm)
  clear hR
  unfold IV
  rw [hop]
  generalize x.dst = z1 at *
  generalize x.a = s0 at *
  generalize x.b = s1 at *
  generalize x.c = s2 at *
  generalize x.n = z5 at *
  generalize x.width = z6 at *
  generalize x.signed = z7 at *
  generalize x.bits = z8 at *
  clear hop
  have j1 : (j : Int) < 35 := by omega
  have j2 : (0 : Int) ≤ (j : Int) := by omega
  obtain ⟨i0, hi, hz0, hz1, hz2⟩ := info_parts infoEx
  have HOP := hide (fun V => iInstrOps ⟨(j : Int), z1, s0, s1, s2, z5, z6, z7, z8⟩ V)
  unfold IV at HOP
  simp only at HOP
  go_enter Try.func52, Try.ntmps52
  go_wp2_with (first | (go_at_call 67; refine (unhide HOP _).mono ?_; rintro e W1 ⟨rfl, hb1⟩))
  have HX := hide (show Bt 40 W #[.int .i64 (j : Int), .int .i64 z1, .int .i64 s0, .int .i64 s1, .int .i64 s2, .int .i64 z5, .int .i64 z6, .bool z7, .string z8] W1 from hb1)
  clear hb1
  go_loopw [6, 11] (fun kv i wr => ∃ k : Nat, k ≤ 3 ∧ i = .int .i64 k ∧ ([s0, s1, s2].zipIdx.take k).all (slotB ws T) = true ∧ OKd (W.heap.size + 1) kv (kidW ws T ([s0, s1, s2].take k)) wr ∧ Bt 40 W #[.int .i64 (j : Int), .int .i64 z1, .int .i64 s0, .int .i64 s1, .int .i64 s2, .int .i64 z5, .int .i64 z6, .bool z7, .string z8] wr) (fun _ i _ => 3 - (intOf i).toNat)
  case atStart => exact ⟨0, Nat.zero_le _, rfl, rfl, by rw [List.take_zero, kidW_nil]; exact OKd.nil _ _, unhide HX⟩
  case round =>
    clear HX
    obtain ⟨k, hk, rfl, hall, hown, hX⟩ := hrel
    have q0 := hX.get (j := 0) rfl
    have hbw := hX.below
    have hlt0 := hX.size
    have m0 := unhide HK _ hbw
    have m1 := unhide HWD _ hbw
    by_cases hlt : k < 3
    · obtain ⟨s, hs⟩ : ∃ s, [s0, s1, s2][k]? = some s := ⟨_, List.getElem?_eq_getElem (by simpa using hlt)⟩
      have hix := fun V => run_index3 k #[.int .i64 s0, .int .i64 s1, .int .i64 s2] (.int .i64 s) V hlt (by
        have : k = 0 ∨ k = 1 ∨ k = 2 := by omega
        rcases this with rfl | rfl | rfl <;> (simp at hs; subst hs; rfl))
      have HST := hide (all_zip (p := slotB ws T) hs)
      have HNO := hide (fun h => unhide HN k s hs h)
      have HA := hide hall
      have HX := hide hX
      have HW := hide hown
      have HBW := hide hbw
      by_cases hTk : T ≤ k
      · have d1 : (T : Int) ≤ (k : Int) := by omega
        have HSM := hide (kidW_same (ws := ws) (l := [s0, s1, s2]) hTk)
        have hsl : slotB ws T (s, k) = decide (s = 0) := if_pos hTk
        clear HO HAT hall hX hown hbw HN hs hTk HK HWD m1
        cases hz : decide (s = 0)
        · have hne : (s != 0) = true := by rw [bne_iff_ne]; exact of_decide_eq_false hz
          have HE := hide (unhide HNO (hsl.trans hz))
          clear hsl HNO hz HY
          go_wp2
          go_quiet (fail)
          go_wp2
          refine bodyPost_ret (v := .tuple #[.slice none 0 0, .bool false]) (by simp [results, Try.results52, go_sem]) rfl ?_
          rw [← unhide HE]
          exact ⟨⟨_, _, _, rfl, fun h => by cases h⟩, bdn (unhide HBW)⟩
        · have hne : (s != 0) = false := by rw [bne_eq_false_iff_eq]; exact of_decide_eq_true hz
          have HS := hide (show ([s0, s1, s2].zipIdx.take (k + 1)).all (slotB ws T) = true from by rw [unhide HST, unhide HA, hsl, hz]; rfl)
          clear hsl HNO hz HY HST HA
          go_wp2
          go_quiet (fail)
          go_wp2
          go_roundw
          case rel => exact ⟨k + 1, by omega, by go_num, unhide HS, by rw [unhide HSM]; exact (unhide HW).later (bdn (brf _)), bdn (unhide HX)⟩
          case measure => simp [intOf]; omega
      · have d1 : decide (T ≤ k) = false := decide_eq_false (by omega)
        have hsl : slotB ws T (s, k) = holdsB ws s := if_neg hTk
        have HC := hide (fun V hb => unhide HO V hb s)
        cases hw : holdsB ws s
        · rw [hw] at HC
          have HE := hide (unhide HNO (hsl.trans hw))
          clear HO HAT hall hX hown hbw HN hs hTk HK HWD m1 hsl HNO HY
          go_wp2
          go_quiet (fail)
          go_wp2_with (first | (go_at_call 44; refine (unhide HC _ (bdn (unhide HBW))).mono ?_; rintro e V1 ⟨rfl, rfl⟩))
          refine bodyPost_ret (v := .tuple #[.slice none 0 0, .bool false]) (by simp [results, Try.results52, go_sem]) rfl ?_
          rw [← unhide HE]
          exact ⟨⟨_, _, _, rfl, fun h => by cases h⟩, bdn (unhide HBW)⟩
        · rw [hw] at HC
          obtain ⟨i, y, rfl, hil, hy, hy0, hgd⟩ := holdsB_open hw
          have m2 := unhide HAT _ hbw i y hy
          have i1 : (i : Int) < (ws.length : Int) := by omega
          have i2 : (0 : Int) ≤ (i : Int) := by omega
          have HS := hide (show ([s0, s1, s2].zipIdx.take (k + 1)).all (slotB ws T) = true from by rw [unhide HST, unhide HA, hsl, hw]; rfl)
          have HSM := hide (show kidW ws T ([s0, s1, s2].take (k + 1)) = kidW ws T ([s0, s1, s2].take k) ++ [y] from by rw [kidW_step hs (by omega), hgd])
          have HLN := hide (show (kidW ws T ([s0, s1, s2].take k)).length ≤ 3 from Nat.le_trans (kidW_len _ _ _) (by rw [List.length_take]; omega))
          have hsw := Below.size hX
          clear HO HAT hall hX hown hbw HN hs hTk HK HWD hsl HNO HY HST HA hy hgd hw
          go_wp2
          go_quiet (fail)
          have HW2 := hide ((unhide HW).later (bdn (n := nq) (brf wr)))
          have HX2 := hide (show Bt 40 W _ (wr.drewN nq) from bdn (unhide HX))
          have hsz : W.heap.size + 1 ≤ (wr.drewN nq).heap.size := (unhide HX2).size
          go_wp2_with (first
            | (go_at_call 44; refine (unhide HC _ (bdn (unhide HBW))).mono ?_; rintro e V1 ⟨rfl, rfl⟩)
            | (at_builtin; refine wpList_append_own _ rfl _ _ 42 rfl (W.heap.size + 1) 44 i0 (.agg #[.int .i64 0, .int .i64 0, .int .i64 0, .bool false, .string ByteArray.empty, .slice none 0 0]) 6 72 Try.underlying42 hi hz0 hz1 hz2 rfl (by decide) _ _ _ rfl ((unhide HW2).alloc _) ⟨(wr.drewN nq).heap.size, 0, none⟩ 1 1 (kkC y) rfl rfl (newK _ _ _ rfl) (oneK _) (by have := unhide HLN; unfold maxLen; omega) (by have := unhide HLN; omega) (by simp; omega) ?_; intro v' w2 hown' hgrow _))
          have R1 : OKd (W.heap.size + 1) v' (kidW ws T ([s0, s1, s2].take (k + 1))) w2 := by rw [unhide HSM]; exact OKd.step hown'
          have R2 := OKd.frame ((unhide HX2).alloc _) ((unhide HW2).alloc _) hgrow
          go_roundw
          case rel => exact ⟨k + 1, by omega, by go_num, unhide HS, R1, R2⟩
          case measure => simp [intOf]; omega
    · obtain rfl : k = 3 := by omega
      have HR := hide (unhide HY hall)
      have HO2 := hide (hown.read (Nat.le_trans (kidW_len _ _ _) (by rw [List.length_take]; omega)))
      obtain ⟨ka, kl, kc, rfl⟩ := hown.shape
      have HBW := hide hbw
      clear HO HAT hall hX hown hbw HN HK HWD m1 HY m0 q0
      go_wp2
      refine bodyPost_ret (v := .tuple #[.slice ka kl kc, .bool true]) (by simp [results, Try.results52, go_sem]) rfl ?_
      rw [← unhide HR]
      exact ⟨⟨_, _, _, rfl, fun _ => unhide HO2⟩, unhide HBW⟩
end Go.Proofs.Ytbpcomnneemolaa
