/- A row of rows in a box: what holds of it, what a link does to it, and what is put behind it. -/
import Derived.Test.YtlldfaniddbjaaaGreatDoorRI17
import Derived.Test.YtlldfaniddbjaaaGreatDoorGRWZ
import Derived.Test.YtlldfaniddbjaaaGreatDoorGRP
namespace Go.Proofs.YtlldfaniddbjaaaGreatDoor
open Go Go.RowKit Gs
set_option linter.unusedVariables false
set_option maxRecDepth 100000
set_option maxHeartbeats 3200000
abbrev T3 := Option Addr × Nat × Nat
def slV (t : T3) : Value := .slice t.1 t.2.1 t.2.2
def slC (t : T3) : List Value := [slV t]
theorem slC_len (t : T3) : (slC t).length = 1 := rfl
theorem slC_one (t : T3) : ∀ u ∈ slC t, u.oneCell' = true := by
  intro u hu; simp [slC] at hu; subst hu; rfl
def inV (n : Int) : Value := .int .i64 n
structure LR (B b : Nat) (W : World) (xs : List (List Int)) (v : Value) (us : List T3) : Prop where
  bx : W.heap[b]? = some (.cells #[v] 79)
  ln : us.length = xs.length
  out : OW 29 1 slC B W v us
  inn : ∀ (i : Nat) x t, xs[i]? = some x → us[i]? = some t → W.ownsRow B 3 1 (slV t) x.length (x.map inV)
  dj : ∀ (i j : Nat) t t' k, us[i]? = some t → us[j]? = some t' → (slV t).ownBlock = some k → (slV t').ownBlock = some k → i = j
theorem LR.later {B b : Nat} {W V : World} {xs : List (List Int)} {v : Value} {us : List T3} (h : LR B b W xs v us) (hb : Below W.heap.size W V) : LR B b V xs v us :=
  ⟨(hb.block b (heap_lt h.bx)).trans h.bx, h.ln, h.out.later hb, fun i x t hx ht => ownsRow_keep (h.inn i x t hx ht) (fun g o _ hc => (hb.block g (heap_lt hc)).trans hc), h.dj⟩
theorem flat_sl (us : List T3) : us.flatMap slC = us.map slV := by
  induction us with
  | nil => rfl
  | cons t r ih => rw [List.flatMap_cons, ih]; rfl
/-- The cell of one of the rows, and its own row. -/
theorem LR.at {B b : Nat} {W : World} {xs : List (List Int)} {v : Value} {us : List T3} (h : LR B b W xs v us) {i : Nat} {x : List Int} (hx : xs[i]? = some x) :
    ∃ g nc t cur, v = .slice (some ⟨g, 0, none⟩) xs.length nc ∧ us[i]? = some t ∧ W.cell? ⟨g, i, none⟩ = some (slV t) ∧ W.heap[g]? = some (.cells cur 29) ∧ W.ownsRow B 3 1 (slV t) x.length (x.map inV) ∧ W.cell? ⟨b, 0, none⟩ = some v ∧ (∀ k, (slV t).ownBlock = some k → k ≠ b ∧ k ≠ g) ∧ B ≤ g := by
  have hi : i < xs.length := (List.getElem?_eq_some_iff.1 hx).1
  obtain ⟨t, ht⟩ : ∃ t, us[i]? = some t := ⟨_, List.getElem?_eq_getElem (by rw [h.ln]; exact hi)⟩
  have hin := h.inn i x t hx ht
  have ho := h.out
  have hcs := fun g hg => World.ownsRow.cells ho (g := g) hg
  obtain ⟨h1, ⟨e, h0⟩ | ⟨g, cap, cur, hv, hg, hc, h5, h6, h7⟩⟩ := ho
  · rw [h.ln] at h0; omega
  · refine ⟨g, cap, t, cur, by rw [hv, h.ln], ht, ?_, hc, hin, ?_, fun k hk => ?_, hg⟩
    · have hq : (us.flatMap slC)[i]? = some (slV t) := by rw [flat_sl, List.getElem?_map, ht]; rfl
      have := hcs g (by rw [hv]; rfl) i (slV t) hq
      rw [Addr.add_lit] at this
      simpa using this
    · simp [World.cell?, h.bx]
    · obtain ⟨o, ho⟩ := own_ty hin hk
      exact ⟨ty_ne ho h.bx (by decide), ty_ne ho hc (by decide)⟩
/-- A number is put to one of the rows. -/
theorem LR.link {B b g nc : Nat} {W V0 V1 : World} {xs : List (List Int)} {x : List Int} {us : List T3} {t : T3} {v' : Value} {i : Nat} {r : Int} (h : LR B b W xs (.slice (some ⟨g, 0, none⟩) xs.length nc) us) (hx : xs[i]? = some x) (ht : us[i]? = some t) (hw : V1.ownsRow B 3 1 v' (x.length + 1) (x.map inV ++ [inV r])) (hb : Below W.heap.size W V0) (hg : V0.grownBy V1 (slV t).ownBlock) (hv : v'.ownBlock = (slV t).ownBlock ∨ v'.ownBlock = some V0.heap.size) :
    ∃ us', LR B b (V1.setCell ⟨g, i, none⟩ v') (xs.set i (x ++ [r])) (.slice (some ⟨g, 0, none⟩) (xs.set i (x ++ [r])).length nc) us' := by
  obtain ⟨a, c, rfl⟩ := own_shape hw
  have hi : i < us.length := (List.getElem?_eq_some_iff.1 ht).1
  have hin := h.inn i x t hx ht
  obtain ⟨h1, ⟨e, h0⟩ | ⟨g', cap, cur, hv2, hgB, hc, h5, h6, h7, h8⟩⟩ := h.out
  · cases e
  injection hv2 with e1 e2 e3
  injection e1 with e1
  injection e1 with e1
  subst e1 e3
  -- blocks that are not the row's own stay
  have k1 : ∀ (k : Nat) (o : Array Value) (ty : TypeId), W.heap[k]? = some (.cells o ty) → ((slV t).ownBlock ≠ some k) → V1.heap[k]? = some (.cells o ty) := fun k o ty hk hne => by
    have hl := heap_lt hk
    have h0 := (hb.block k hl).trans hk
    refine (hg.block k (heap_lt h0) ?_).trans h0
    intro e; exact hne e.symm
  have kt : ∀ (k : Nat) (o : Array Value) (ty : TypeId), ty ≠ 3 → W.heap[k]? = some (.cells o ty) → (slV t).ownBlock ≠ some k := fun k o ty hty hk e => by
    obtain ⟨o', ho'⟩ := own_ty hin e
    exact ty_ne ho' hk (Ne.symm hty) rfl
  have c1 := k1 g cur 29 hc (kt g cur 29 (by decide) hc)
  have k2 : ∀ (k : Nat) (o : Array Value) (ty : TypeId), ty ≠ 29 → V1.heap[k]? = some (.cells o ty) → (V1.setCell ⟨g, i, none⟩ (.slice a (x.length + 1) c)).heap[k]? = some (.cells o ty) := fun k o ty hne hk => (Below.heap_setCell V1 ⟨g, i, none⟩ _ k (ty_ne hk c1 hne)).trans hk
  refine ⟨us.set i (a, x.length + 1, c), ⟨?_, by simp [h.ln], ?_, fun j y s hy hs => ?_, fun j l s s' k hs hs' hk hk' => ?_⟩⟩
  · rw [List.length_set]
    exact k2 _ _ _ (by decide) (k1 _ _ _ h.bx (kt _ _ _ (by decide) h.bx))
  · refine ⟨by rw [flat_sl, List.length_map]; simp, .inr ⟨g, nc, cur.setIfInBounds i (.slice a (x.length + 1) c), by rw [List.length_set, List.length_set, h.ln], hgB, heap_set c1, by rw [List.length_set]; exact h5, h6, by rw [Array.size_setIfInBounds]; exact h7, ?_⟩⟩
    rw [flat_sl] at h8 ⊢
    rw [List.length_set, Array.toList_setIfInBounds, List.take_set, h8, List.map_set]
    rfl
  · by_cases e : j = i
    · subst e
      rw [List.getElem?_set_self (by omega)] at hs
      rw [List.getElem?_set_self (by rw [← h.ln]; omega)] at hy
      injection hs with hs; injection hy with hy
      subst hs hy
      rw [List.length_append, List.map_append]
      exact ownsRow_keep hw (fun g o _ hc => k2 _ _ _ (by decide) hc)
    · rw [List.getElem?_set_ne (fun h => e h.symm)] at hs hy
      refine ownsRow_keep (h.inn j y s hy hs) (fun q o hq hc => k2 _ _ _ (by decide) (k1 _ _ _ hc (fun e2 => e (h.dj j i s t q hs ht hq e2))))
  · have nw : ∀ j s k, j ≠ i → us[j]? = some s → (slV s).ownBlock = some k → (Value.slice a (x.length + 1) c).ownBlock = some k → False := fun j s k hj hs hk hk' => by
      have hjl : j < us.length := (List.getElem?_eq_some_iff.1 hs).1
      obtain ⟨y, hy⟩ : ∃ y, xs[j]? = some y := ⟨_, List.getElem?_eq_getElem (by rw [← h.ln]; exact hjl)⟩
      rcases hv with e | e
      · exact hj (h.dj j i s t k hs ht hk (e ▸ hk'))
      · rw [e] at hk'
        injection hk' with hk'
        obtain ⟨o, ho⟩ := own_ty (h.inn j y s hy hs) hk
        have h3 := heap_lt ho
        have h4 := hb.size
        omega
    by_cases e1 : j = i
    · by_cases e2 : l = i
      · rw [e1, e2]
      · subst e1
        rw [List.getElem?_set_self (by omega)] at hs
        injection hs with hs; subst hs
        rw [List.getElem?_set_ne (fun h => e2 h.symm)] at hs'
        exact (nw l s' k e2 hs' hk' hk).elim
    · by_cases e2 : l = i
      · subst e2
        rw [List.getElem?_set_self (by omega)] at hs'
        injection hs' with hs'; subst hs'
        rw [List.getElem?_set_ne (fun h => e1 h.symm)] at hs
        exact (nw j s k e1 hs hk hk').elim
      · rw [List.getElem?_set_ne (fun h => e1 h.symm)] at hs
        rw [List.getElem?_set_ne (fun h => e2 h.symm)] at hs'
        exact h.dj j l s s' k hs hs' hk hk'
/-- One row more, of one number. -/
theorem LR.push {B b : Nat} {W w3 : World} {xs : List (List Int)} {v v' : Value} {us : List T3} {s : Int} (h : LR B b W xs v us) (hB : B ≤ W.heap.size) (ho : OW 29 1 slC B w3 v' (us ++ [(some ⟨W.heap.size, 0, none⟩, 1, 1)])) (hg : ((W.alloc (.cells #[inV s] 3)).alloc (.cells #[slV (some ⟨W.heap.size, 0, none⟩, 1, 1)] 29)).grownBy w3 v.ownBlock) :
    LR B b (w3.setCell ⟨b, 0, none⟩ v') (xs ++ [[s]]) v' (us ++ [(some ⟨W.heap.size, 0, none⟩, 1, 1)]) := by
  have hbW : Below W.heap.size W ((W.alloc (.cells #[inV s] 3)).alloc (.cells #[slV (some ⟨W.heap.size, 0, none⟩, 1, 1)] 29)) := bal (bal (brf W) _) _
  have kr : ∀ (k : Nat) (o : Array Value) (ty : TypeId), ty ≠ 29 → ((W.alloc (.cells #[inV s] 3)).alloc (.cells #[slV (some ⟨W.heap.size, 0, none⟩, 1, 1)] 29)).heap[k]? = some (.cells o ty) → w3.heap[k]? = some (.cells o ty) := fun k o ty hty hk => by
    refine (hg.block k (heap_lt hk) ?_).trans hk
    intro e
    obtain ⟨o', ho'⟩ := own_ty h.out e.symm
    exact ty_ne hk ((hbW.block k (heap_lt ho')).trans ho') hty rfl
  have k1 : ∀ (k : Nat) (o : Array Value) (ty : TypeId), ty ≠ 29 → W.heap[k]? = some (.cells o ty) → w3.heap[k]? = some (.cells o ty) := fun k o ty hty hk => kr k o ty hty ((hbW.block k (heap_lt hk)).trans hk)
  have b1 := k1 _ _ _ (by decide) h.bx
  have k2 : ∀ (k : Nat) (o : Array Value) (ty : TypeId), ty ≠ 79 → w3.heap[k]? = some (.cells o ty) → (w3.setCell ⟨b, 0, none⟩ v').heap[k]? = some (.cells o ty) := fun k o ty hne hk => (Below.heap_setCell w3 ⟨b, 0, none⟩ _ k (ty_ne hk b1 hne)).trans hk
  have nb : ((W.alloc (.cells #[inV s] 3)).alloc (.cells #[slV (some ⟨W.heap.size, 0, none⟩, 1, 1)] 29)).heap[W.heap.size]? = some (.cells #[inV s] 3) := by
    exact ((bal (brf (W.alloc (.cells #[inV s] 3))) (.cells #[slV (some ⟨W.heap.size, 0, none⟩, 1, 1)] 29)).block W.heap.size (by rw [World.size_alloc]; omega)).trans (by show (W.heap.push _)[W.heap.size]? = _; rw [Array.getElem?_push_size])
  have hold : ∀ (j : Nat) t, us[j]? = some t → ∀ k, (slV t).ownBlock = some k → k < W.heap.size := fun j t ht k hk => by
    have hjl : j < us.length := (List.getElem?_eq_some_iff.1 ht).1
    obtain ⟨y, hy⟩ : ∃ y, xs[j]? = some y := ⟨_, List.getElem?_eq_getElem (by rw [← h.ln]; exact hjl)⟩
    obtain ⟨o, ho⟩ := own_ty (h.inn j y t hy ht) hk
    exact heap_lt ho
  refine ⟨?_, by simp [h.ln], ?_, fun j y t hy ht => ?_, fun j l t t' k ht ht' hk hk' => ?_⟩
  · rw [heap_set b1]; rfl
  · exact ownsRow_keep ho (fun g o _ hc => k2 _ _ _ (by decide) hc)
  · by_cases e : j < us.length
    · rw [List.getElem?_append_left e] at ht
      rw [List.getElem?_append_left (by rw [← h.ln]; exact e)] at hy
      exact ownsRow_keep (h.inn j y t hy ht) (fun g o _ hc => k2 _ _ _ (by decide) (k1 _ _ _ (by decide) hc))
    · rw [List.getElem?_append_right (by omega)] at ht
      rw [List.getElem?_append_right (by rw [← h.ln]; omega)] at hy
      have e0 : j - us.length = 0 := by
        rcases Nat.eq_zero_or_pos (j - us.length) with e | e
        · exact e
        · rw [List.getElem?_eq_none (by simp; omega)] at ht; cases ht
      rw [e0] at ht
      rw [← h.ln, e0] at hy
      simp at ht hy
      subst ht hy
      exact ⟨rfl, .inr ⟨W.heap.size, 1, #[inV s], rfl, hB, k2 _ _ _ (by decide) (kr _ _ _ (by decide) nb), by simp, by unfold maxLen; omega, rfl, rfl⟩⟩
  · have tl : ∀ (j : Nat) t, (us ++ [(some ⟨W.heap.size, 0, none⟩, 1, 1)])[j]? = some t → (j < us.length ∧ us[j]? = some t) ∨ (j = us.length ∧ t = (some ⟨W.heap.size, 0, none⟩, 1, 1)) := fun j t ht => by
      by_cases e : j < us.length
      · rw [List.getElem?_append_left e] at ht
        exact .inl ⟨e, ht⟩
      · rw [List.getElem?_append_right (by omega)] at ht
        have e0 : j - us.length = 0 := by
          rcases Nat.eq_zero_or_pos (j - us.length) with e | e
          · exact e
          · rw [List.getElem?_eq_none (by simp; omega)] at ht; cases ht
        rw [e0] at ht
        simp at ht
        exact .inr ⟨by omega, ht.symm⟩
    rcases tl j t ht with ⟨_, a⟩ | ⟨a, rfl⟩ <;> rcases tl l t' ht' with ⟨_, a'⟩ | ⟨a', rfl⟩
    · exact h.dj j l t t' k a a' hk hk'
    · have := hold j t a k hk
      have e : some W.heap.size = some k := hk'
      injection e with e; omega
    · have := hold l t' a' k hk'
      have e : some W.heap.size = some k := hk
      injection e with e; omega
    · omega
end Go.Proofs.YtlldfaniddbjaaaGreatDoor
namespace Go.Proofs.YtlldfaniddbjaaaGreatDoor
open Go Go.RowKit Gs
set_option linter.unusedVariables false
set_option maxRecDepth 100000
set_option maxHeartbeats 3200000
def lkR (ps : List (Nat × Int)) (s : Nat) : List Int := (s : Int) :: (ps.filter (fun p => p.1 == s)).map (·.2)
def lkX (n : Nat) (ps : List (Nat × Int)) : List (List Int) := (List.range n).map (lkR ps)
theorem lkX_len (n : Nat) (ps : List (Nat × Int)) : (lkX n ps).length = n := by simp [lkX]
theorem lkX_get {n s : Nat} {ps : List (Nat × Int)} (h : s < n) : (lkX n ps)[s]? = some (lkR ps s) := by simp [lkX, h]
theorem lkR_len (ps : List (Nat × Int)) (s : Nat) : (lkR ps s).length ≤ ps.length + 1 := by
  have := List.length_filter_le (fun p : Nat × Int => p.1 == s) ps
  simp [lkR]; omega
theorem lkR_mem {ps : List (Nat × Int)} {s : Nat} {r : Int} : r ∈ lkR ps s ↔ r = s ∨ (s, r) ∈ ps := by
  simp [lkR]
theorem lkR_put (ps : List (Nat × Int)) (i s : Nat) (r : Int) : lkR (ps ++ [(i, r)]) s = if i = s then lkR ps s ++ [r] else lkR ps s := by
  unfold lkR
  rw [List.filter_append]
  by_cases h : i = s
  · simp [h]
  · simp [h]
theorem lkX_put {n i : Nat} {ps : List (Nat × Int)} {r : Int} : (lkX n ps).set i (lkR ps i ++ [r]) = lkX n (ps ++ [(i, r)]) := by
  refine List.ext_getElem? fun s => ?_
  by_cases hs : s < n
  · rw [lkX_get hs, lkR_put]
    by_cases e : i = s
    · subst e
      rw [List.getElem?_set_self (by rw [lkX_len]; exact hs), if_pos rfl]
    · rw [List.getElem?_set_ne e, lkX_get hs, if_neg e]
  · rw [List.getElem?_eq_none (by rw [List.length_set, lkX_len]; omega), List.getElem?_eq_none (by rw [lkX_len]; omega)]
theorem lkX_push (n : Nat) : lkX n [] ++ [[(n : Int)]] = lkX (n + 1) [] := by
  simp [lkX, List.range_succ, lkR]
/-- Blocks of cells that hold neither numbers nor rows stay. -/
def Kt (W V : World) : Prop := ∀ (k : Nat) (o : Array Value) (ty : TypeId), ty ≠ 3 → ty ≠ 29 → W.heap[k]? = some (.cells o ty) → V.heap[k]? = some (.cells o ty)
theorem iLinkS {B b n i : Nat} {w W : World} {ps : List (Nat × Int)} {v : Value} {us : List T3} {r : Int} (h : LR B b W (lkX n ps) v us) (hi : i < n) (hl : ps.length ≤ 4194000) (hb : Below B w W) (hB : B ≤ W.heap.size) :
    Calls Tryz.prog 89 #[.int .i64 (i : Int), .int .i64 r, .pointer (some ⟨b, 0, none⟩)] W fun e V => e = .returned (.tuple #[]) ∧ (∃ us', LR B b V (lkX n (ps ++ [(i, r)])) v us') ∧ Below B w V ∧ Kt W V := by
  obtain ⟨g, nc, t, cur, rfl, ht, hc, hg, ho, hbx, hne, hgB⟩ := h.at (lkX_get hi)
  have hll := lkR_len ps i
  have e1 : (lkR ps i).length = ((lkR ps i).map inV).length := by simp
  have ho' := ho
  rw [e1] at ho
  rw [lkX_len] at hbx
  refine (iLink1 (r := r) (hide ho) (hide (by rw [← e1]; omega)) hi (hide hB) (hide hbx) (hide hc) (hide hg) (hide hne) ⟨_, _, _, rfl⟩).mono ?_
  rintro e V ⟨rfl, V1, V0, v', hw, hV0, hgr, hv', rfl⟩
  rw [← e1] at hw
  obtain ⟨us', hL⟩ := h.link (lkX_get hi) ht hw hV0 hgr hv'
  rw [lkX_put] at hL
  rw [lkX_len] at hL ⊢
  have kt : ∀ (k : Nat) (o : Array Value) (ty : TypeId), ty ≠ 3 → W.heap[k]? = some (.cells o ty) → V1.heap[k]? = some (.cells o ty) := fun k o ty h3 hk => by
    have e0 := (hV0.block k (heap_lt hk)).trans hk
    refine (hgr.block k (heap_lt e0) (fun e => ?_)).trans e0
    obtain ⟨o', ho''⟩ := own_ty ho' e.symm
    exact ty_ne ho'' hk (Ne.symm h3) rfl
  have hgV := kt g cur 29 (by decide) hg
  refine ⟨rfl, ⟨us', hL⟩, ?_, fun k o ty h3 h29 hk => (Below.heap_setCell V1 ⟨g, i, none⟩ _ k (ty_ne (kt k o ty h3 hk) hgV h29)).trans (kt k o ty h3 hk)⟩
  have b0 : Below B w V0 := hb.trans (hV0.mono hB)
  have b1 : Below B w V1 := below_grown b0 hgr (Nat.le_trans hB hV0.size) (fun j hj => (World.ownsRow.lt ho' j hj).1)
  exact b1.setCell hgB _
end Go.Proofs.YtlldfaniddbjaaaGreatDoor
namespace Go.Proofs.YtlldfaniddbjaaaGreatDoor
open Go Go.RowKit Gs
set_option linter.unusedVariables false
set_option maxRecDepth 100000
set_option maxHeartbeats 1600000
theorem hasB_in {xs : List Int} {x : Int} : hasB xs x = true ↔ x ∈ xs := by
  unfold hasB
  simp
def psI (m : Nat) (xs : List Int) (j : Nat) : List (Nat × Int) := (xs.take j).map fun s => (s.toNat, (m : Int))
def psB (n0 : Nat) (bs : List Block) : Nat → List (Nat × Int)
  | 0 => []
  | k + 1 => psB n0 bs k ++ (match bs[k]? with | some b => psI (n0 + k) b.inp b.inp.length | none => [])
def psE (n : Nat) (es : List Port) : Nat → List (Nat × Int)
  | 0 => []
  | k + 1 => psE n es k ++ (match es[k]? with | some e => [(e.src.toNat, ((n + k : Nat) : Int))] | none => [])
theorem psE_len (n : Nat) (es : List Port) : ∀ k, (psE n es k).length ≤ k
  | 0 => Nat.le_refl _
  | k + 1 => by rw [psE, List.length_append]; have := psE_len n es k; split <;> simp <;> omega
theorem psI_len (m : Nat) (xs : List Int) (j : Nat) : (psI m xs j).length ≤ j := by
  rw [psI, List.length_map, List.length_take]; omega
theorem psI_put {m j : Nat} {xs : List Int} {s : Nat} (h : xs[j]? = some (s : Int)) : psI m xs (j + 1) = psI m xs j ++ [(s, (m : Int))] := by
  unfold psI
  rw [List.take_add_one, h, List.map_append]
  simp
theorem psB_put {n0 k : Nat} {bs : List Block} {b : Block} (h : bs[k]? = some b) : psB n0 bs (k + 1) = psB n0 bs k ++ psI (n0 + k) b.inp b.inp.length := by
  rw [psB, h]
theorem psE_put {n k : Nat} {es : List Port} {e : Port} {s : Nat} (h : es[k]? = some e) (hs : e.src = (s : Int)) : psE n es (k + 1) = psE n es k ++ [(s, ((n + k : Nat) : Int))] := by
  rw [psE, h]
  simp [hs]
theorem psB_le {n0 : Nat} {bs : List Block} : ∀ k : Nat, (psB n0 bs k).length ≤ ((bs.take k).map fun b => b.inp.length).sum
  | 0 => by simp [psB]
  | k + 1 => by
    have := psB_le (n0 := n0) (bs := bs) k
    rw [psB, List.length_append, List.take_add_one, List.map_append, List.sum_append]
    cases bs[k]? with
    | none => simpa using this
    | some b =>
      have h2 := psI_len (n0 + k) b.inp b.inp.length
      rw [List.map_take] at this ⊢
      simp only [Option.toList_some, List.map_cons, List.map_nil, List.sum_cons, List.sum_nil]
      omega
theorem psI_mem {m a : Nat} {xs : List Int} {r : Int} : (a, r) ∈ psI m xs xs.length ↔ r = m ∧ ∃ s ∈ xs, s.toNat = a := by
  unfold psI
  rw [List.take_length]
  simp only [List.mem_map, Prod.mk.injEq]
  constructor
  · rintro ⟨s, h1, h2, h3⟩; exact ⟨h3.symm, s, h1, h2⟩
  · rintro ⟨h3, s, h1, h2⟩; exact ⟨s, h1, h2, h3.symm⟩
theorem psB_mem {n0 a : Nat} {bs : List Block} {r : Int} : ∀ {k : Nat}, (a, r) ∈ psB n0 bs k ↔ ∃ i b, i < k ∧ bs[i]? = some b ∧ r = ((n0 + i : Nat) : Int) ∧ ∃ s ∈ b.inp, s.toNat = a
  | 0 => by simp [psB]
  | k + 1 => by
    rw [psB, List.mem_append, psB_mem]
    constructor
    · rintro (⟨i, b, h1, h2⟩ | h)
      · exact ⟨i, b, by omega, h2⟩
      · split at h
        · rename_i b hb
          exact ⟨k, b, by omega, hb, psI_mem.1 h⟩
        · simp at h
    · rintro ⟨i, b, h1, h2, h3⟩
      by_cases e : i = k
      · subst e
        right
        rw [h2]
        exact psI_mem.2 h3
      · exact .inl ⟨i, b, by omega, h2, h3⟩
theorem psE_mem {n a : Nat} {es : List Port} {r : Int} : ∀ {k : Nat}, (a, r) ∈ psE n es k ↔ ∃ i e, i < k ∧ es[i]? = some e ∧ r = ((n + i : Nat) : Int) ∧ e.src.toNat = a
  | 0 => by simp [psE]
  | k + 1 => by
    rw [psE, List.mem_append, psE_mem]
    constructor
    · rintro (⟨i, b, h1, h2⟩ | h)
      · exact ⟨i, b, by omega, h2⟩
      · split at h
        · rename_i b hb
          simp only [List.mem_singleton, Prod.mk.injEq] at h
          exact ⟨k, b, by omega, hb, h.2, h.1.symm⟩
        · simp at h
    · rintro ⟨i, b, h1, h2, h3, h4⟩
      by_cases e : i = k
      · subst e
        right
        rw [h2]
        simp only [List.mem_singleton, Prod.mk.injEq]
        exact ⟨h4.symm, h3⟩
      · exact .inl ⟨i, b, by omega, h2, h3, h4⟩
theorem spI_eq (H : Nat) : ∀ k, spI H k = (List.range k).map (fun i : Nat => ((-1 : Int), (i : Int) % (H : Int)))
  | 0 => rfl
  | k + 1 => by rw [spI, spI_eq, List.range_succ, List.map_append]; rfl
theorem spE_eq (W H : Nat) : ∀ k, spE W H k = (List.range k).map (fun i : Nat => ((W : Int), (i : Int) % (H : Int)))
  | 0 => rfl
  | k + 1 => by rw [spE, spE_eq, List.range_succ, List.map_append]; rfl
theorem spT_eq (W : Nat) (ts : List Int) : ∀ k, spT W ts k = (ts.take k).map (tileP W)
  | 0 => rfl
  | k + 1 => by
    rw [spT, spT_eq, List.take_add_one, List.map_append]
    cases ts[k]? <;> rfl
/-- Where all stand: the inputs, the blocks, and what leaves. -/
def stL (W H nI nE : Nat) (ts : List Int) : List (Int × Int) := (spI H nI ++ spT W ts ts.length) ++ spE W H nE
theorem stL_len (W H nI nE : Nat) (ts : List Int) : (stL W H nI nE ts).length = nI + ts.length + nE := by
  unfold stL
  rw [spI_eq, spT_eq, spE_eq]
  simp; omega
theorem stL_src {W H nI nE s : Nat} {ts : List Int} (h : s < nI + ts.length) : (stL W H nI nE ts)[s]? = some (fromP nI W H ts s) := by
  unfold stL fromP
  rw [spI_eq, spT_eq, spE_eq]
  rw [List.getElem?_append_left (by simp; omega)]
  split
  · rename_i h1
    rw [List.getElem?_append_left (by simpa using h1)]
    simp [h1]
  · rename_i h1
    rw [List.getElem?_append_right (by simp; omega)]
    have h2 : s - nI < ts.length := by omega
    simp [h2]
theorem stL_end {W H nI nE j : Nat} {ts : List Int} (h : j < nE) : (stL W H nI nE ts)[nI + ts.length + j]? = some ((W : Int), (j : Int) % (H : Int)) := by
  unfold stL
  rw [spI_eq, spT_eq, spE_eq]
  rw [List.getElem?_append_right (by simp)]
  simp [h]
/-- All pairs of a design. -/
def psL (x : Packed) : List (Nat × Int) := psB x.ins.length x.blocks x.blocks.length ++ psE (x.ins.length + x.blocks.length) (x.outs ++ x.checks) (x.outs ++ x.checks).length
end Go.Proofs.YtlldfaniddbjaaaGreatDoor
namespace Go.Proofs.YtlldfaniddbjaaaGreatDoor
open Go Go.RowKit
set_option linter.unusedVariables false
section
variable {P : Program} {ops : Array Oper} {a0 : Act} {F : Nat → Value → Prop} {w0 : World} {n : Nat} {E : World → Prop}
theorem se_lcall {o : Oper} {f : FuncId} (hg : o.guard = none) (h : ∀ l a w, PA ops (GF F) (JE w0 n E) a0 l a w → Below w0.heap.size w0 w → (∀ e ∈ o.after, Region.binds .any e = true → l.getD e.on false = true) → ∃ args, (execOp a.eval o).run P w = .ok (.enter f args) w ∧ Calls P f args w fun e w' => ∃ x, e = .returned x ∧ F n x ∧ E w') : Stp P ops (GF F) (JE w0 n E) a0 n o := by
  intro l a w hp hu ha
  have hb := hp.j.1 (notDoneB hu)
  obtain ⟨args, hr, hc⟩ := h l a w hp hb ha
  unfold opW
  rw [if_pos (wanted_none hg)]
  have e1 : (l.setIfInBounds n true).getD n false = true := by rw [set_ite (lt_of_undone hu), if_pos rfl]
  refine .inr (.inr ⟨f, args, w, hr, Calls.mono hc ?_⟩)
  rintro e w' ⟨x, rfl, hf, hE⟩
  exact ⟨x, rfl, x, rfl, ⟨fun h => (by rw [e1] at h; cases h), fun _ => hE⟩, hf, fun _ _ _ _ h => h⟩
theorem se_valx {k : Nat} {o : Oper} (hne : k ≠ n) (hn : ∀ l a w, PA ops (GF F) (JE w0 n E) a0 l a w → l.getD k false = false → l.getD n false = false) (hg : o.guard = none) (h : ∀ l a w, PA ops (GF F) (JE w0 n E) a0 l a w → Below w0.heap.size w0 w → (∀ e ∈ o.after, Region.binds .any e = true → l.getD e.on false = true) → ∃ x, (execOp a.eval o).run P w = .ok (.value x) w ∧ F k x) : Stp P ops (GF F) (JE w0 n E) a0 k o := by
  intro l a w hp hu ha
  have hl := hn l a w hp (notDoneB hu)
  have hb := hp.j.1 hl
  obtain ⟨x, hr, hf⟩ := h l a w hp hb ha
  unfold opW
  rw [if_pos (wanted_none hg)]
  exact .inl ⟨x, w, hr, x, rfl, JE.step hne hu hl hb, hf, fun _ _ _ _ h => h⟩
end
end Go.Proofs.YtlldfaniddbjaaaGreatDoor
