/- The specification's Solve. -/
import Derived.Test.YtonfbnbkhpabbaaS3
import Derived.Orders
import Derived.WalkKit
namespace Go.Proofs.Ytonfbnbkhpabbaa
open Go Go.RowKit Gs
set_option linter.unusedVariables false
set_option linter.unusedSimpArgs false
set_option maxRecDepth 100000
/-- What is answered. -/
inductive SolR (vars : Int) (Cl : List (List Int)) (work : Int) : Int → List Int → List (List Int) → Int → Int → Prop
  | bad : okC vars 64 Cl = false → SolR vars Cl work 0 [] [] 0 1
  | rng : okC vars 64 Cl = true → (work < 1 ∨ 4000 < work) → SolR vars Cl work 0 [] [] 0 11
  | over {n m : Nat} : okC vars 64 Cl = true → vars = (n : Int) → work = (m : Int) → 1 ≤ m → m ≤ 4000 → Vs n m Cl true [] 0 [] .over → SolR vars Cl work 0 [] [] 0 15
  | sat {n m k : Nat} {mo : List Int} : okC vars 64 Cl = true → vars = (n : Int) → work = (m : Int) → 1 ≤ m → m ≤ 4000 → Vs n m Cl true [] 0 [] (.sat mo k) → SolR vars Cl work 1 mo [] (k : Int) 0
  | unsat {n m k : Nat} {T : List (List Int)} : okC vars 64 Cl = true → vars = (n : Int) → work = (m : Int) → 1 ≤ m → m ≤ 4000 → Vs n m Cl true [] 0 [] (.unsat T k) → SolR vars Cl work 2 [] T (k : Int) 0
theorem SolR.one {vars : Int} {Cl : List (List Int)} {work k1 k2 w1 w2 c1 c2 : Int} {m1 m2 : List Int} {T1 T2 : List (List Int)} (h : SolR vars Cl work k1 m1 T1 w1 c1) (h' : SolR vars Cl work k2 m2 T2 w2 c2) : k1 = k2 ∧ m1 = m2 ∧ T1 = T2 ∧ w1 = w2 ∧ c1 = c2 := by
  have same : ∀ {n m n' m' : Nat} {R R' : SRes}, vars = (n : Int) → work = (m : Int) → vars = (n' : Int) → work = (m' : Int) → Vs n m Cl true [] 0 [] R → Vs n' m' Cl true [] 0 [] R' → R = R' := fun e1 e2 e3 e4 v1 v2 => by
    obtain rfl : _ = _ := Int.ofNat.inj (e1.symm.trans e3)
    obtain rfl : _ = _ := Int.ofNat.inj (e2.symm.trans e4)
    exact v1.one v2
  cases h with
  | bad h =>
    cases h' with
    | bad _ => exact ⟨rfl, rfl, rfl, rfl, rfl⟩
    | rng h2 _ => rw [h] at h2; cases h2
    | over h2 _ _ _ _ _ => rw [h] at h2; cases h2
    | sat h2 _ _ _ _ _ => rw [h] at h2; cases h2
    | unsat h2 _ _ _ _ _ => rw [h] at h2; cases h2
  | rng h hr =>
    cases h' with
    | bad h2 => rw [h] at h2; cases h2
    | rng _ _ => exact ⟨rfl, rfl, rfl, rfl, rfl⟩
    | over _ _ e a b _ => omega
    | sat _ _ e a b _ => omega
    | unsat _ _ e a b _ => omega
  | over h e1 e2 a b v =>
    cases h' with
    | bad h2 => rw [h] at h2; cases h2
    | rng _ hr => omega
    | over _ _ _ _ _ _ => exact ⟨rfl, rfl, rfl, rfl, rfl⟩
    | sat _ f1 f2 _ _ v2 => have := same e1 e2 f1 f2 v v2; cases this
    | unsat _ f1 f2 _ _ v2 => have := same e1 e2 f1 f2 v v2; cases this
  | sat h e1 e2 a b v =>
    cases h' with
    | bad h2 => rw [h] at h2; cases h2
    | rng _ hr => omega
    | over _ f1 f2 _ _ v2 => have := same e1 e2 f1 f2 v v2; cases this
    | sat _ f1 f2 _ _ v2 => have := same e1 e2 f1 f2 v v2; cases this; exact ⟨rfl, rfl, rfl, rfl, rfl⟩
    | unsat _ f1 f2 _ _ v2 => have := same e1 e2 f1 f2 v v2; cases this
  | unsat h e1 e2 a b v =>
    cases h' with
    | bad h2 => rw [h] at h2; cases h2
    | rng _ hr => omega
    | over _ f1 f2 _ _ v2 => have := same e1 e2 f1 f2 v v2; cases this
    | sat _ f1 f2 _ _ v2 => have := same e1 e2 f1 f2 v v2; cases this
    | unsat _ f1 f2 _ _ v2 => have := same e1 e2 f1 f2 v v2; cases this; exact ⟨rfl, rfl, rfl, rfl, rfl⟩
/-- What the specification answers, in memory. -/
def SA (vars : Int) (Cl : List (List Int)) (work : Int) (e : Ending) (W : World) : Prop := ∃ kd mo T wk cd mv tv, e = .returned (.tuple #[.agg #[.int .i64 kd, mv, tv, .int .i64 wk], .int .i64 cd]) ∧ SolR vars Cl work kd mo T wk cd ∧ RS 1 RInt W 0 mo mv ∧ RS 1 RIntS W 0 T tv
theorem SA.zero {vars : Int} {Cl : List (List Int)} {work cd : Int} {W : World} (h : SolR vars Cl work 0 [] [] 0 cd) : SA vars Cl work (.returned (.tuple #[.agg #[.int .i64 0, .slice none 0 0, .slice none 0 0, .int .i64 0], .int .i64 cd])) W :=
  ⟨0, [], [], 0, cd, _, _, rfl, h, RS.nil _ _ _ _ _ _, RS.nil _ _ _ _ _ _⟩
theorem resCell {W : World} {b : Nat} {o : Array Value} {t : TypeId} (h : W.heap[b]? = some (.cells o t)) (i : Nat) {v : Value} (hi : o[i]? = some v) : W.cell? ⟨b, i, none⟩ = some v := by
  simp only [World.cell?, h]; exact hi
theorem resFrz {W : World} {b : Nat} {o : Array Value} {t : TypeId} (h : W.heap[b]? = some (.cells o t)) (i : Nat) : W.frozen? ⟨b, i, none⟩ = false := by
  simp [World.frozen?, h]
/-- The four cells of an answer. -/
def put4 (W : World) (b : Nat) (a0 a1 a2 a3 : Value) : World := (((W.setCell ⟨b, 0, none⟩ a0).setCell ⟨b, 1, none⟩ a1).setCell ⟨b, 2, none⟩ a2).setCell ⟨b, 3, none⟩ a3
theorem put4_heap {W : World} {b : Nat} {x0 x1 x2 x3 : Value} (h : W.heap[b]? = some (.cells #[x0, x1, x2, x3] 26)) (a0 a1 a2 a3 : Value) : (put4 W b a0 a1 a2 a3).heap[b]? = some (.cells #[a0, a1, a2, a3] 26) := by
  unfold put4
  rw [heap_set (heap_set (heap_set (heap_set h)))]; rfl
theorem put4_other (W : World) (b : Nat) (a0 a1 a2 a3 : Value) (k : Nat) (hk : k ≠ b) : (put4 W b a0 a1 a2 a3).heap[k]? = W.heap[k]? := by
  unfold put4
  rw [Below.heap_setCell _ ⟨b, 3, none⟩ _ k hk, Below.heap_setCell _ ⟨b, 2, none⟩ _ k hk, Below.heap_setCell _ ⟨b, 1, none⟩ _ k hk, Below.heap_setCell _ ⟨b, 0, none⟩ _ k hk]
theorem put4_below {B : Nat} {w W : World} {b : Nat} (h : Below B w W) (hb : B ≤ b) (a0 a1 a2 a3 : Value) : Below B w (put4 W b a0 a1 a2 a3) := (((h.setCell (p := ⟨b, 0, none⟩) hb _).setCell (p := ⟨b, 1, none⟩) hb _).setCell (p := ⟨b, 2, none⟩) hb _).setCell (p := ⟨b, 3, none⟩) hb _
set_option maxHeartbeats 8000000 in
theorem sSolve (vars work : Int) (Cl : List (List Int)) (cv : Value) (w : World) (hr : RS 1 RIntS w 0 Cl cv) :
    Calls Try.prog 5 #[.int .i64 vars, cv, .int .i64 work] w fun e w' => SA vars Cl work e w' ∧ Below w.heap.size w w' := by
  have HOK := hide (sOK vars Cl cv (w.alloc (.cells #[.int .i64 0, .slice none 0 0, .slice none 0 0, .int .i64 0] 26)) (hr.later RIntS.keeps (bal (brf w) _)))
  obtain ⟨ca, cc, hcv⟩ := hr.slice
  have HR := hide hr
  subst hcv
  clear hr
  have HAL : Hid (∀ W1, Below (w.alloc (.cells #[.int .i64 0, .slice none 0 0, .slice none 0 0, .int .i64 0] 26)).heap.size (w.alloc (.cells #[.int .i64 0, .slice none 0 0, .slice none 0 0, .int .i64 0] 26)) W1 → Below w.heap.size w W1 ∧ W1.heap[w.heap.size]? = some (.cells #[.int .i64 0, .slice none 0 0, .slice none 0 0, .int .i64 0] 26)) := hide (fun W1 h => ⟨btr (bal (brf w) _) h, (h.block w.heap.size (by simp)).trans (heap_new _ _)⟩)
  cases hk : okC vars 64 Cl with
  | false =>
    have HE := hide (fun W => SA.zero (W := W) (SolR.bad (work := work) hk))
    rw [hk] at HOK
    clear hk
    go_enter Try.func5, Try.ntmps5
    go_wp2_with fail
    refine (unhide HOK).mono ?_
    rintro e W1 ⟨rfl, hb1⟩
    obtain ⟨hb, hres⟩ := unhide HAL W1 hb1
    have z0 := resCell hres 0 rfl
    have z1 := resCell hres 1 rfl
    have z2 := resCell hres 2 rfl
    have z3 := resCell hres 3 rfl
    have zf := fun i => resFrz hres i
    clear hb1
    go_wp2
    have hp := put4_heap hres (.int .i64 0) (.slice none 0 0) (.slice none 0 0) (.int .i64 0)
    have r0 := resCell hp 0 rfl
    have r1 := resCell hp 1 rfl
    have r2 := resCell hp 2 rfl
    have r3 := resCell hp 3 rfl
    unfold put4 at r0 r1 r2 r3
    refine bodyPost_ret (v := .tuple #[.agg #[.int .i64 0, .slice none 0 0, .slice none 0 0, .int .i64 0], .int .i64 1]) ?_ rfl ⟨unhide HE _, put4_below hb (Nat.le_refl _) _ _ _ _⟩
    simp [results, Try.results5, go_sem, r0, r1, r2, r3]
  | true =>
    rw [hk] at HOK
    by_cases h1 : work < 1
    · have HE := hide (fun W => SA.zero (W := W) (SolR.rng (work := work) hk (.inl h1)))
      clear hk
      go_enter Try.func5, Try.ntmps5
      go_wp2_with fail
      refine (unhide HOK).mono ?_
      rintro e W1 ⟨rfl, hb1⟩
      obtain ⟨hb, hres⟩ := unhide HAL W1 hb1
      have z0 := resCell hres 0 rfl
      have z1 := resCell hres 1 rfl
      have z2 := resCell hres 2 rfl
      have z3 := resCell hres 3 rfl
      have zf := fun i => resFrz hres i
      clear hb1
      go_wp2
      have hp := put4_heap hres (.int .i64 0) (.slice none 0 0) (.slice none 0 0) (.int .i64 0)
      have r0 := resCell hp 0 rfl
      have r1 := resCell hp 1 rfl
      have r2 := resCell hp 2 rfl
      have r3 := resCell hp 3 rfl
      unfold put4 at r0 r1 r2 r3
      refine bodyPost_ret (v := .tuple #[.agg #[.int .i64 0, (.slice none 0 0), (.slice none 0 0), .int .i64 0], .int .i64 11]) ?_ rfl ⟨unhide HE _, put4_below hb (Nat.le_refl _) _ _ _ _⟩
      simp [results, Try.results5, go_sem, r0, r1, r2, r3]
    · by_cases h2 : 4000 < work
      · have HE := hide (fun W => SA.zero (W := W) (SolR.rng (work := work) hk (.inr h2)))
        clear hk
        go_enter Try.func5, Try.ntmps5
        go_wp2_with fail
        refine (unhide HOK).mono ?_
        rintro e W1 ⟨rfl, hb1⟩
        obtain ⟨hb, hres⟩ := unhide HAL W1 hb1
        have z0 := resCell hres 0 rfl
        have z1 := resCell hres 1 rfl
        have z2 := resCell hres 2 rfl
        have z3 := resCell hres 3 rfl
        have zf := fun i => resFrz hres i
        clear hb1
        go_wp2
        have hp := put4_heap hres (.int .i64 0) (.slice none 0 0) (.slice none 0 0) (.int .i64 0)
        have r0 := resCell hp 0 rfl
        have r1 := resCell hp 1 rfl
        have r2 := resCell hp 2 rfl
        have r3 := resCell hp 3 rfl
        unfold put4 at r0 r1 r2 r3
        refine bodyPost_ret (v := .tuple #[.agg #[.int .i64 0, (.slice none 0 0), (.slice none 0 0), .int .i64 0], .int .i64 11]) ?_ rfl ⟨unhide HE _, put4_below hb (Nat.le_refl _) _ _ _ _⟩
        simp [results, Try.results5, go_sem, r0, r1, r2, r3]
      · obtain ⟨hv0, hv1, hcl⟩ := okC_vars hk
        obtain ⟨n, hn⟩ : ∃ n : Nat, vars = (n : Int) := ⟨vars.toNat, by omega⟩
        obtain ⟨m, hm⟩ : ∃ m : Nat, work = (m : Int) := ⟨work.toNat, by omega⟩
        have hn2 : n ≤ 2048 := by omega
        have hm1 : 1 ≤ m := by omega
        have hm2 : m ≤ 4000 := by omega
        have HLC := hide (lits_of hk hn)
        subst hn hm
        have HK := hide hk
        clear hk hv0 hv1 h1 h2
        go_enter Try.func5, Try.ntmps5
        go_wp2_with fail
        refine (unhide HOK).mono ?_
        rintro e W1 ⟨rfl, hb1⟩
        obtain ⟨hb, hres⟩ := unhide HAL W1 hb1
        have z0 := resCell hres 0 rfl
        have z1 := resCell hres 1 rfl
        have z2 := resCell hres 2 rfl
        have z3 := resCell hres 3 rfl
        have zf := fun i => resFrz hres i
        have HB1 := hide hb1
        have HBB := hide hb
        have HRS := hide hres
        obtain ⟨w1, hw1⟩ : ∃ w1, w1 = w.alloc (.cells #[.int .i64 0, .slice none 0 0, .slice none 0 0, .int .i64 0] 26) := ⟨_, rfl⟩
        have HW1 := hide hw1
        have HS : Hid (Calls Try.prog 15 #[.pointer (some ⟨W1.heap.size, 0, none⟩), .slice (some ⟨W1.heap.size + 1, 0, none⟩) 0 0] ((W1.alloc (.cells (XF n (.slice ca Cl.length cc) m 0 (.slice none 0 0) (.slice none 0 0) false) 38)).alloc (.cells #[] 3)) fun e W3 => SQ w1.heap.size n w1 (.slice ca Cl.length cc) m W1.heap.size Cl [] 0 [] ((W1.alloc (.cells (XF n (.slice ca Cl.length cc) m 0 (.slice none 0 0) (.slice none 0 0) false) 38)).alloc (.cells #[] 3)) e W3) := hide (by
          have hbw : Below w1.heap.size w1 W1 := by rw [hw1]; exact hb1
          have hr1 : RS 1 RIntS w1 0 Cl (.slice ca Cl.length cc) := by rw [hw1]; exact (unhide HR).later RIntS.keeps (bal (brf w) _)
          have hsz := hbw.size
          refine sSearch rfl hn2 hm2 hr1 (unhide HLC) hsz m 0 [] (W1.heap.size + 1) 0 [] (.slice none 0 0) _ (by omega) (by omega) (fun l hl => by cases hl) (Nat.le_refl _) (Nat.le_refl _) ?_ (TR.nil _ _) ?_ (bal (bal hbw _) _)
          · exact heap_al (heap_new _ _)
          · have := IR.new W1 (W1.alloc (.cells (XF n (.slice ca Cl.length cc) m 0 (.slice none 0 0) (.slice none 0 0) false) 38)) w1.heap.size (by simp; omega)
            simpa using this)
        have HBK : Hid (∀ W3, Below w1.heap.size w1 W3 → Below w.heap.size w W3 ∧ W3.heap[w.heap.size]? = some (.cells #[.int .i64 0, .slice none 0 0, .slice none 0 0, .int .i64 0] 26)) := hide (fun W3 h => by rw [hw1] at h; exact unhide HAL W3 h)
        clear hb1 hb hres hw1 z0 z1 z2 z3 zf
        unfold XF at HS
        go_wp2_with fail
        refine (unhide HS).mono ?_
        rintro e W3 ⟨hB3, hK3, hS3, hor⟩
        obtain ⟨hb, hres⟩ := unhide HBK W3 hB3
        have z0 := resCell hres 0 rfl
        have z1 := resCell hres 1 rfl
        have z2 := resCell hres 2 rfl
        have z3 := resCell hres 3 rfl
        have zf := fun i => resFrz hres i
        rcases hor with ⟨rfl, ⟨k1, mv1, tv1, hx1⟩, hvs⟩ | ⟨rfl, k1, m1, mv1, tv1, hx1, hm1', hvs⟩ | ⟨rfl, k1, tv1, T1, hx1, ht1, hk1, hk2, hl1, hf1⟩
        · have o6 := hx1.c6
          have HE := hide (fun W => SA.zero (W := W) (SolR.over (unhide HK) rfl rfl hm1 hm2 hvs))
          clear hx1 hvs hK3 HS
          go_wp2
          have hp := put4_heap hres (.int .i64 0) (.slice none 0 0) (.slice none 0 0) (.int .i64 0)
          have r0 := resCell hp 0 rfl
          have r1 := resCell hp 1 rfl
          have r2 := resCell hp 2 rfl
          have r3 := resCell hp 3 rfl
          unfold put4 at r0 r1 r2 r3
          refine bodyPost_ret (v := .tuple #[.agg #[.int .i64 0, (.slice none 0 0), (.slice none 0 0), .int .i64 0], .int .i64 15]) ?_ rfl ⟨unhide HE _, put4_below hb (Nat.le_refl _) _ _ _ _⟩
          simp [results, Try.results5, go_sem, r0, r1, r2, r3]
        · have o6 := hx1.c6
          have o3 := hx1.c3
          have o4 := hx1.c4
          obtain ⟨ma, mc, rfl⟩ := hm1'.shape
          have HIR := hide hm1'
          have HVS := hide hvs
          have HXX := hide hx1
          clear hx1 hvs hK3 HS hm1'
          have HE : Hid (SA (n : Int) Cl (m : Int) (.returned (.tuple #[.agg #[.int .i64 1, .slice ma m1.length mc, .slice none 0 0, .int .i64 (k1 : Int)], .int .i64 0])) (put4 W3 w.heap.size (.int .i64 1) (.slice ma m1.length mc) (.slice none 0 0) (.int .i64 (k1 : Int)))) := hide (by
            refine ⟨1, m1, [], k1, 0, _, _, rfl, SolR.sat (unhide HK) rfl rfl hm1 hm2 (unhide HVS), ?_, RS.nil _ _ _ _ _ _⟩
            exact ((unhide HIR).keep (fun g o hg => (put4_other _ _ _ _ _ _ g (ty_ne hg hres (by decide))).trans hg)).read)
          go_wp2
          go_region
          go_wp2
          have hp := put4_heap hres (.int .i64 1) (.slice ma m1.length mc) (.slice none 0 0) (.int .i64 (k1 : Int))
          have r0 := resCell hp 0 rfl
          have r1 := resCell hp 1 rfl
          have r2 := resCell hp 2 rfl
          have r3 := resCell hp 3 rfl
          unfold put4 at r0 r1 r2 r3
          refine bodyPost_ret (v := .tuple #[.agg #[.int .i64 1, .slice ma m1.length mc, .slice none 0 0, .int .i64 (k1 : Int)], .int .i64 0]) ?_ rfl ⟨unhide HE, bdr (put4_below hb (Nat.le_refl _) _ _ _ _)⟩
          simp [results, Try.results5, go_sem, r0, r1, r2, r3]
        · have o6 := hx1.c6
          have o3 := hx1.c3
          have o5 := hx1.c5
          obtain ⟨ma, mc, rfl⟩ := ht1.shape
          have HTR := hide ht1
          have HVS := hide (hf1 _ (.done rfl))
          clear hx1 hf1 hK3 HS ht1
          have HE : Hid (SA (n : Int) Cl (m : Int) (.returned (.tuple #[.agg #[.int .i64 2, .slice none 0 0, .slice ma T1.length mc, .int .i64 (k1 : Int)], .int .i64 0])) (put4 W3 w.heap.size (.int .i64 2) (.slice none 0 0) (.slice ma T1.length mc) (.int .i64 (k1 : Int)))) := hide (by
            refine ⟨2, [], T1, k1, 0, _, _, rfl, SolR.unsat (unhide HK) rfl rfl hm1 hm2 (unhide HVS), RS.nil _ _ _ _ _ _, ?_⟩
            exact ((unhide HTR).keep (fun g o hg => (put4_other _ _ _ _ _ _ g (ty_ne hg hres (by decide))).trans hg) (fun g o _ hg => (put4_other _ _ _ _ _ _ g (ty_ne hg hres (by decide))).trans hg)).read)
          go_wp2
          go_region
          go_wp2
          have hp := put4_heap hres (.int .i64 2) (.slice none 0 0) (.slice ma T1.length mc) (.int .i64 (k1 : Int))
          have r0 := resCell hp 0 rfl
          have r1 := resCell hp 1 rfl
          have r2 := resCell hp 2 rfl
          have r3 := resCell hp 3 rfl
          unfold put4 at r0 r1 r2 r3
          refine bodyPost_ret (v := .tuple #[.agg #[.int .i64 2, .slice none 0 0, .slice ma T1.length mc, .int .i64 (k1 : Int)], .int .i64 0]) ?_ rfl ⟨unhide HE, bdr (put4_below hb (Nat.le_refl _) _ _ _ _)⟩
          simp [results, Try.results5, go_sem, r0, r1, r2, r3]
end Go.Proofs.Ytonfbnbkhpabbaa
