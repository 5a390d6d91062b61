/- The program's floor. -/
import Derived.Test.YtlldfaniddbjaaaGreatDoorRI20
namespace Go.Proofs.YtlldfaniddbjaaaGreatDoor
open Go Go.RowKit Gs
set_option linter.unusedVariables false
set_option linter.unusedSimpArgs false
set_option maxRecDepth 100000
set_option maxHeartbeats 16000000
theorem setK_heap : ∀ (vs : List Value) (w : World) (g o k : Nat), k ≠ g → (setK w g o vs).heap[k]? = w.heap[k]?
  | [], _, _, _, _, _ => rfl
  | v :: vs, w, g, o, k, h => (setK_heap vs _ g (o + 1) k h).trans (Below.heap_setCell w ⟨g, o, none⟩ v k h)
theorem LR.other {B b g : Nat} {W V : World} {xs : List (List Int)} {v : Value} {us : List T3} {o : Array Value} {ty : TypeId} (h : LR B b W xs v us) (hg : W.heap[g]? = some (.cells o ty)) (h79 : ty ≠ 79) (h29 : ty ≠ 29) (h3 : ty ≠ 3) (hs : ∀ k, k ≠ g → V.heap[k]? = W.heap[k]?) : LR B b V xs v us :=
  ⟨(hs b (ty_ne h.bx hg (Ne.symm h79))).trans h.bx, h.ln, ownsRow_keep h.out (fun q o' _ hc => (hs q (ty_ne hc hg (Ne.symm h29))).trans hc), fun i x t hx ht => ownsRow_keep (h.inn i x t hx ht) (fun q o' _ hc => (hs q (ty_ne hc hg (Ne.symm h3))).trans hc), h.dj⟩
def FFl (s0 s1 s2 s3 s4 : Option Addr) (l0 l1 l2 l3 l4 c0 c1 c2 c3 c4 W H T P : Nat) (tp : Option Addr) (N tc : Nat) (st : List (Int × Int)) (lk : List (List Int)) (n1 n2 : Nat) : Nat → World → Value → Prop
  | 0, _, v => v = .agg #[.slice s0 l0 c0, .slice s1 l1 c1, .slice s2 l2 c2, .slice s3 l3 c3, .slice s4 l4 c4, .int .i64 (W : Int), .int .i64 (H : Int), .int .i64 (T : Int), .int .i64 (P : Int)]
  | 1, _, v => v = .agg #[.slice s0 l0 c0, .slice s1 l1 c1, .slice s2 l2 c2, .slice s3 l3 c3, .slice s4 l4 c4, .int .i64 (W : Int), .int .i64 (H : Int), .int .i64 (T : Int), .int .i64 (P : Int)]
  | 2, _, v => v = .slice tp N tc
  | 3, V, v => ∃ B, OW 87 2 spC B V v st
  | 4, _, v => v = .agg #[.slice s0 l0 c0, .slice s1 l1 c1, .slice s2 l2 c2, .slice s3 l3 c3, .slice s4 l4 c4]
  | 5, V, v => ∃ B us, LR B B V lk v us
  | 6, V, v => ∃ va vc vb vd B1 B2 us, v = .agg #[.slice s0 l0 c0, .slice s1 l1 c1, .slice s2 l2 c2, .slice s3 l3 c3, .slice s4 l4 c4, .int .i64 (W : Int), .int .i64 (H : Int), .int .i64 (T : Int), .int .i64 (P : Int), .slice va n1 vc, .slice vb n2 vd] ∧ OW 87 2 spC B1 V (.slice va n1 vc) st ∧ LR B2 B2 V lk (.slice vb n2 vd) us
  | _, _, _ => True
theorem FFl.lasts (s0 s1 s2 s3 s4 : Option Addr) (l0 l1 l2 l3 l4 c0 c1 c2 c3 c4 W H T P : Nat) (tp : Option Addr) (N tc : Nat) (st : List (Int × Int)) (lk : List (List Int)) (n1 n2 : Nat) : Lasts (FFl s0 s1 s2 s3 s4 l0 l1 l2 l3 l4 c0 c1 c2 c3 c4 W H T P tp N tc st lk n1 n2) := by
  intro k w w' v hb h
  match k, h with
  | 0, h => exact h
  | 1, h => exact h
  | 2, h => exact h
  | 3, ⟨B, h⟩ => exact ⟨B, h.later hb⟩
  | 4, h => exact h
  | 5, ⟨B, us, h⟩ => exact ⟨B, us, h.later hb⟩
  | 6, ⟨va, vc, vb, vd, B1, B2, us, h1, h2, h3⟩ => exact ⟨va, vc, vb, vd, B1, B2, us, h1, h2.later hb, h3.later hb⟩
  | _ + 7, _ => trivial
theorem iNewFloor {s0 s1 s2 s3 s4 tp : Option Addr} {l0 l1 l2 l3 l4 N c0 c1 c2 c3 c4 tc W H T P : Nat} (st : List (Int × Int)) (lk : List (List Int)) (w : World)
    (hsp : ∀ V, Below w.heap.size w V → Calls Tryz.prog 59 #[.agg #[.slice s0 l0 c0, .slice s1 l1 c1, .slice s2 l2 c2, .slice s3 l3 c3, .slice s4 l4 c4, .int .i64 (W : Int), .int .i64 (H : Int), .int .i64 (T : Int), .int .i64 (P : Int)], .slice tp N tc] V fun e w' => (∃ v, e = .returned v ∧ ∃ B, OW 87 2 spC B w' v st) ∧ Below V.heap.size V w')
    (hlk : ∀ V, Below w.heap.size w V → Calls Tryz.prog 60 #[.agg #[.slice s0 l0 c0, .slice s1 l1 c1, .slice s2 l2 c2, .slice s3 l3 c3, .slice s4 l4 c4]] V fun e w' => (∃ v us, e = .returned v ∧ ∃ B, LR B B w' lk v us) ∧ Below V.heap.size V w') :
    Calls Tryz.prog 34 #[.agg #[.slice s0 l0 c0, .slice s1 l1 c1, .slice s2 l2 c2, .slice s3 l3 c3, .slice s4 l4 c4], .agg #[.int .i64 (W : Int), .int .i64 (H : Int), .int .i64 (T : Int), .int .i64 (P : Int)], .slice tp N tc] w fun e w' => (∃ va vc vb vd B1 B2 us, e = .returned (.agg #[.slice s0 l0 c0, .slice s1 l1 c1, .slice s2 l2 c2, .slice s3 l3 c3, .slice s4 l4 c4, .int .i64 (W : Int), .int .i64 (H : Int), .int .i64 (T : Int), .int .i64 (P : Int), .slice va st.length vc, .slice vb lk.length vd]) ∧ OW 87 2 spC B1 w' (.slice va st.length vc) st ∧ LR B2 B2 w' lk (.slice vb lk.length vd) us) ∧ Below w.heap.size w w' := by
  have HSP := hide hsp
  have HLK := hide hlk
  obtain ⟨n1, hn1⟩ : ∃ n, st.length = n := ⟨_, rfl⟩
  obtain ⟨n2, hn2⟩ : ∃ n, lk.length = n := ⟨_, rfl⟩
  rw [hn1, hn2]
  have HN1 := hide hn1
  have HN2 := hide hn2
  clear hsp hlk hn1 hn2
  obtain ⟨X, hX⟩ : ∃ X, X = (((w.alloc (.cells #[.slice s0 l0 c0, .slice s1 l1 c1, .slice s2 l2 c2, .slice s3 l3 c3, .slice s4 l4 c4] 37)).alloc (.cells #[.int .i64 (W : Int), .int .i64 (H : Int), .int .i64 (T : Int), .int .i64 (P : Int)] 39)).alloc (.cells #[.slice none 0 0, .slice none 0 0, .slice none 0 0, .slice none 0 0, .slice none 0 0, .int .i64 0, .int .i64 0, .int .i64 0, .int .i64 0, .slice none 0 0, .slice none 0 0] 81)).alloc (.cells #[.slice s0 l0 c0, .slice s1 l1 c1, .slice s2 l2 c2, .slice s3 l3 c3, .slice s4 l4 c4, .int .i64 (W : Int), .int .i64 (H : Int), .int .i64 (T : Int), .int .i64 (P : Int)] 77) := ⟨_, rfl⟩
  have HXB := hide (show Below w.heap.size w X by rw [hX]; exact bal (bal (bal (bal (brf w) _) _) _) _)
  have HP : Hid (∀ V, Below X.heap.size X V → V.cell? ⟨w.heap.size, 0, none⟩ = some (.slice s0 l0 c0) ∧ V.cell? ⟨w.heap.size, 1, none⟩ = some (.slice s1 l1 c1) ∧ V.cell? ⟨w.heap.size, 2, none⟩ = some (.slice s2 l2 c2) ∧ V.cell? ⟨w.heap.size, 3, none⟩ = some (.slice s3 l3 c3) ∧ V.cell? ⟨w.heap.size, 4, none⟩ = some (.slice s4 l4 c4)) := hide (fun V hV => by
    rw [hX] at hV
    have hb := (bal (bal (bal (brf (w.alloc (.cells #[.slice s0 l0 c0, .slice s1 l1 c1, .slice s2 l2 c2, .slice s3 l3 c3, .slice s4 l4 c4] 37))) (.cells #[.int .i64 (W : Int), .int .i64 (H : Int), .int .i64 (T : Int), .int .i64 (P : Int)] 39)) (.cells #[.slice none 0 0, .slice none 0 0, .slice none 0 0, .slice none 0 0, .slice none 0 0, .int .i64 0, .int .i64 0, .int .i64 0, .int .i64 0, .slice none 0 0, .slice none 0 0] 81)) (.cells #[.slice s0 l0 c0, .slice s1 l1 c1, .slice s2 l2 c2, .slice s3 l3 c3, .slice s4 l4 c4, .int .i64 (W : Int), .int .i64 (H : Int), .int .i64 (T : Int), .int .i64 (P : Int)] 77))
    have hV2 := hb.trans (hV.mono hb.size)
    exact ⟨(new_cell hV2 rfl).1, (new_cell hV2 rfl).1, (new_cell hV2 rfl).1, (new_cell hV2 rfl).1, (new_cell hV2 rfl).1⟩)
  have HS : Hid (∀ V, Below X.heap.size X V → V.cell? ⟨w.heap.size + 1 + 1 + 1, 0, none⟩ = some (.slice s0 l0 c0) ∧ V.cell? ⟨w.heap.size + 1 + 1 + 1, 1, none⟩ = some (.slice s1 l1 c1) ∧ V.cell? ⟨w.heap.size + 1 + 1 + 1, 2, none⟩ = some (.slice s2 l2 c2) ∧ V.cell? ⟨w.heap.size + 1 + 1 + 1, 3, none⟩ = some (.slice s3 l3 c3) ∧ V.cell? ⟨w.heap.size + 1 + 1 + 1, 4, none⟩ = some (.slice s4 l4 c4) ∧ V.cell? ⟨w.heap.size + 1 + 1 + 1, 5, none⟩ = some (.int .i64 (W : Int)) ∧ V.cell? ⟨w.heap.size + 1 + 1 + 1, 6, none⟩ = some (.int .i64 (H : Int)) ∧ V.cell? ⟨w.heap.size + 1 + 1 + 1, 7, none⟩ = some (.int .i64 (T : Int)) ∧ V.cell? ⟨w.heap.size + 1 + 1 + 1, 8, none⟩ = some (.int .i64 (P : Int))) := hide (fun V hV => by
    rw [hX] at hV
    have h := fun (i : Nat) (x : Value) (hx : (#[.slice s0 l0 c0, .slice s1 l1 c1, .slice s2 l2 c2, .slice s3 l3 c3, .slice s4 l4 c4, .int .i64 (W : Int), .int .i64 (H : Int), .int .i64 (T : Int), .int .i64 (P : Int)] : Array Value)[i]? = some x) => (new_cell hV hx).1
    simp only [World.size_alloc] at h
    exact ⟨h 0 _ rfl, h 1 _ rfl, h 2 _ rfl, h 3 _ rfl, h 4 _ rfl, h 5 _ rfl, h 6 _ rfl, h 7 _ rfl, h 8 _ rfl⟩)
  have HZ : Hid (∀ V, Below X.heap.size X V → (∃ o, V.heap[w.heap.size + 1 + 1]? = some (.cells o 81)) ∧ (V.cell? ⟨w.heap.size + 1 + 1, 0, none⟩ = some (.slice none 0 0) ∧ V.frozen? ⟨w.heap.size + 1 + 1, 0, none⟩ = false) ∧ (V.cell? ⟨w.heap.size + 1 + 1, 1, none⟩ = some (.slice none 0 0) ∧ V.frozen? ⟨w.heap.size + 1 + 1, 1, none⟩ = false) ∧ (V.cell? ⟨w.heap.size + 1 + 1, 2, none⟩ = some (.slice none 0 0) ∧ V.frozen? ⟨w.heap.size + 1 + 1, 2, none⟩ = false) ∧ (V.cell? ⟨w.heap.size + 1 + 1, 3, none⟩ = some (.slice none 0 0) ∧ V.frozen? ⟨w.heap.size + 1 + 1, 3, none⟩ = false) ∧ (V.cell? ⟨w.heap.size + 1 + 1, 4, none⟩ = some (.slice none 0 0) ∧ V.frozen? ⟨w.heap.size + 1 + 1, 4, none⟩ = false) ∧ (V.cell? ⟨w.heap.size + 1 + 1, 5, none⟩ = some (.int .i64 0) ∧ V.frozen? ⟨w.heap.size + 1 + 1, 5, none⟩ = false) ∧ (V.cell? ⟨w.heap.size + 1 + 1, 6, none⟩ = some (.int .i64 0) ∧ V.frozen? ⟨w.heap.size + 1 + 1, 6, none⟩ = false) ∧ (V.cell? ⟨w.heap.size + 1 + 1, 7, none⟩ = some (.int .i64 0) ∧ V.frozen? ⟨w.heap.size + 1 + 1, 7, none⟩ = false) ∧ (V.cell? ⟨w.heap.size + 1 + 1, 8, none⟩ = some (.int .i64 0) ∧ V.frozen? ⟨w.heap.size + 1 + 1, 8, none⟩ = false) ∧ (V.cell? ⟨w.heap.size + 1 + 1, 9, none⟩ = some (.slice none 0 0) ∧ V.frozen? ⟨w.heap.size + 1 + 1, 9, none⟩ = false) ∧ (V.cell? ⟨w.heap.size + 1 + 1, 10, none⟩ = some (.slice none 0 0) ∧ V.frozen? ⟨w.heap.size + 1 + 1, 10, none⟩ = false)) := hide (fun V hV => by
    rw [hX] at hV
    have hb := (bal (brf (((w.alloc (.cells #[.slice s0 l0 c0, .slice s1 l1 c1, .slice s2 l2 c2, .slice s3 l3 c3, .slice s4 l4 c4] 37)).alloc (.cells #[.int .i64 (W : Int), .int .i64 (H : Int), .int .i64 (T : Int), .int .i64 (P : Int)] 39)).alloc (.cells #[.slice none 0 0, .slice none 0 0, .slice none 0 0, .slice none 0 0, .slice none 0 0, .int .i64 0, .int .i64 0, .int .i64 0, .int .i64 0, .slice none 0 0, .slice none 0 0] 81))) (.cells #[.slice s0 l0 c0, .slice s1 l1 c1, .slice s2 l2 c2, .slice s3 l3 c3, .slice s4 l4 c4, .int .i64 (W : Int), .int .i64 (H : Int), .int .i64 (T : Int), .int .i64 (P : Int)] 77))
    have hV2 := hb.trans (hV.mono hb.size)
    have h := fun (i : Nat) (x : Value) (hx : (#[.slice none 0 0, .slice none 0 0, .slice none 0 0, .slice none 0 0, .slice none 0 0, .int .i64 0, .int .i64 0, .int .i64 0, .int .i64 0, .slice none 0 0, .slice none 0 0] : Array Value)[i]? = some x) => new_cell hV2 hx
    simp only [World.size_alloc] at h
    refine ⟨⟨#[.slice none 0 0, .slice none 0 0, .slice none 0 0, .slice none 0 0, .slice none 0 0, .int .i64 0, .int .i64 0, .int .i64 0, .int .i64 0, .slice none 0 0, .slice none 0 0], ?_⟩, h 0 _ rfl, h 1 _ rfl, h 2 _ rfl, h 3 _ rfl, h 4 _ rfl, h 5 _ rfl, h 6 _ rfl, h 7 _ rfl, h 8 _ rfl, h 9 _ rfl, h 10 _ rfl⟩
    have h2 := hV2.block (w.heap.size + 1 + 1) (by simp only [World.size_alloc]; omega)
    rw [h2]
    have h3 : ((((w.alloc (.cells #[.slice s0 l0 c0, .slice s1 l1 c1, .slice s2 l2 c2, .slice s3 l3 c3, .slice s4 l4 c4] 37)).alloc (.cells #[.int .i64 (W : Int), .int .i64 (H : Int), .int .i64 (T : Int), .int .i64 (P : Int)] 39)).alloc (.cells #[.slice none 0 0, .slice none 0 0, .slice none 0 0, .slice none 0 0, .slice none 0 0, .int .i64 0, .int .i64 0, .int .i64 0, .int .i64 0, .slice none 0 0, .slice none 0 0] 81))).heap[((w.alloc (.cells #[.slice s0 l0 c0, .slice s1 l1 c1, .slice s2 l2 c2, .slice s3 l3 c3, .slice s4 l4 c4] 37)).alloc (.cells #[.int .i64 (W : Int), .int .i64 (H : Int), .int .i64 (T : Int), .int .i64 (P : Int)] 39)).heap.size]? = some (.cells #[.slice none 0 0, .slice none 0 0, .slice none 0 0, .slice none 0 0, .slice none 0 0, .int .i64 0, .int .i64 0, .int .i64 0, .int .i64 0, .slice none 0 0, .slice none 0 0] 81) := by
      show (Array.push _ _)[_]? = _
      rw [Array.getElem?_push_size]
    simpa only [World.size_alloc] using h3)
  have HXX := hide hX
  clear hX
  go_enter Tryz.func34, Tryz.ntmps34
  go_wp2_with fail
  rw [← unhide HXX]
  refine wp_plan (GZ (FFl s0 s1 s2 s3 s4 l0 l1 l2 l3 l4 c0 c1 c2 c3 c4 W H T P tp N tc st lk n1 n2) (fun _ _ _ => True) 7) (JE X 7 (fun w' => ∃ va vc vb vd B1 B2 us, At w' (w.heap.size + 1 + 1) 0 [.slice s0 l0 c0, .slice s1 l1 c1, .slice s2 l2 c2, .slice s3 l3 c3, .slice s4 l4 c4, .int .i64 (W : Int), .int .i64 (H : Int), .int .i64 (T : Int), .int .i64 (P : Int), .slice va n1 vc, .slice vb n2 vd] ∧ OW 87 2 spC B1 w' (.slice va n1 vc) st ∧ LR B2 B2 w' lk (.slice vb n2 vd) us ∧ Below w.heap.size w w')) (by kernel_rfl) 18 (by kernel_rfl) (by kernel_rfl) ?hj ?hs ?hf
  case hj => exact JE.start (bdr (brf X))
  case hs =>
    refine ⟨?_, ?_, ?_, ?_, ?_, ?_, ?_, ?_, trivial⟩
    · exact sz_val (by decide) (by kernel_rfl) rfl (fun l a V hp hl hB ha => ⟨.agg #[.slice s0 l0 c0, .slice s1 l1 c1, .slice s2 l2 c2, .slice s3 l3 c3, .slice s4 l4 c4, .int .i64 (W : Int), .int .i64 (H : Int), .int .i64 (T : Int), .int .i64 (P : Int)], by
        have x7 := (ev_form a 7).trans (old hp 7 (v := .pointer (some ⟨w.heap.size + 1 + 1 + 1, 0, none⟩)) (by kernel_rfl) (by kernel_rfl))
        obtain ⟨q0, q1, q2, q3, q4, q5, q6, q7, q8⟩ := unhide HS V hB
        go_simp, rfl⟩)
    · exact sz_val (by decide) (by kernel_rfl) rfl (fun l a V hp hl hB ha => ⟨.agg #[.slice s0 l0 c0, .slice s1 l1 c1, .slice s2 l2 c2, .slice s3 l3 c3, .slice s4 l4 c4, .int .i64 (W : Int), .int .i64 (H : Int), .int .i64 (T : Int), .int .i64 (P : Int)], by
        have x7 := (ev_form a 7).trans (old hp 7 (v := .pointer (some ⟨w.heap.size + 1 + 1 + 1, 0, none⟩)) (by kernel_rfl) (by kernel_rfl))
        obtain ⟨q0, q1, q2, q3, q4, q5, q6, q7, q8⟩ := unhide HS V hB
        go_simp, rfl⟩)
    · exact sz_val (by decide) (by kernel_rfl) rfl (fun l a V hp hl hB ha => ⟨.slice tp N tc, by
        have x2 := (ev_form a 2).trans (old hp 2 (v := .slice tp N tc) (by kernel_rfl) (by kernel_rfl))
        go_simp, rfl⟩)
    · exact sz_call (f := 59) (FFl.lasts _ _ _ _ _ _ _ _ _ _ _ _ _ _ _ _ _ _ _ _ _ _ _ _ _ _) (by decide) (by kernel_rfl) rfl (fun l a V hp hl hB ha => ⟨#[.agg #[.slice s0 l0 c0, .slice s1 l1 c1, .slice s2 l2 c2, .slice s3 l3 c3, .slice s4 l4 c4, .int .i64 (W : Int), .int .i64 (H : Int), .int .i64 (T : Int), .int .i64 (P : Int)], .slice tp N tc], by
        have x12 := (ev_form a 12).trans (show a.eval (.tmp 12) = .agg #[.slice s0 l0 c0, .slice s1 l1 c1, .slice s2 l2 c2, .slice s3 l3 c3, .slice s4 l4 c4, .int .i64 (W : Int), .int .i64 (H : Int), .int .i64 (T : Int), .int .i64 (P : Int)] from (kn hp ha 12 1 (by kernel_rfl) (by kernel_rfl)).1 hl)
        have x13 := (ev_form a 13).trans (show a.eval (.tmp 13) = .slice tp N tc from (kn hp ha 13 2 (by kernel_rfl) (by kernel_rfl)).1 hl)
        go_simp, (unhide HSP V (btr (unhide HXB) hB)).mono (by rintro e V1 ⟨⟨v, rfl, h⟩, hb⟩; exact ⟨_, rfl, h, hb⟩)⟩)
    · exact sz_val (by decide) (by kernel_rfl) rfl (fun l a V hp hl hB ha => ⟨.agg #[.slice s0 l0 c0, .slice s1 l1 c1, .slice s2 l2 c2, .slice s3 l3 c3, .slice s4 l4 c4], by
        have x3 := (ev_form a 3).trans (old hp 3 (v := .pointer (some ⟨w.heap.size, 0, none⟩)) (by kernel_rfl) (by kernel_rfl))
        obtain ⟨q0, q1, q2, q3, q4⟩ := unhide HP V hB
        go_simp, rfl⟩)
    · exact sz_call (f := 60) (FFl.lasts _ _ _ _ _ _ _ _ _ _ _ _ _ _ _ _ _ _ _ _ _ _ _ _ _ _) (by decide) (by kernel_rfl) rfl (fun l a V hp hl hB ha => ⟨#[.agg #[.slice s0 l0 c0, .slice s1 l1 c1, .slice s2 l2 c2, .slice s3 l3 c3, .slice s4 l4 c4]], by
        have x15 := (ev_form a 15).trans (show a.eval (.tmp 15) = .agg #[.slice s0 l0 c0, .slice s1 l1 c1, .slice s2 l2 c2, .slice s3 l3 c3, .slice s4 l4 c4] from (kn hp ha 15 4 (by kernel_rfl) (by kernel_rfl)).1 hl)
        go_simp, (unhide HLK V (btr (unhide HXB) hB)).mono (by rintro e V1 ⟨⟨v, us, rfl, B, h⟩, hb⟩; exact ⟨_, rfl, ⟨B, us, h⟩, hb⟩)⟩)
    · refine sz_val (by decide) (by kernel_rfl) rfl (fun l a V hp hl hB ha => ?_)
      have x11 := (ev_form a 11).trans (show a.eval (.tmp 11) = .agg #[.slice s0 l0 c0, .slice s1 l1 c1, .slice s2 l2 c2, .slice s3 l3 c3, .slice s4 l4 c4, .int .i64 (W : Int), .int .i64 (H : Int), .int .i64 (T : Int), .int .i64 (P : Int)] from (kn hp ha 11 0 (by kernel_rfl) (by kernel_rfl)).1 hl)
      obtain ⟨B1, ho⟩ := (kn hp ha 14 3 (by kernel_rfl) (by kernel_rfl)).1 hl
      obtain ⟨B2, us, hr⟩ := (kn hp ha 16 5 (by kernel_rfl) (by kernel_rfl)).1 hl
      obtain ⟨va, vc, h14, _⟩ := ho.slice
      obtain ⟨vb, vd, h16, _⟩ := hr.out.slice
      rw [hr.ln, unhide HN2] at h16
      rw [unhide HN1] at h14
      rw [h14] at ho
      rw [h16] at hr
      have x14 := (ev_form a 14).trans h14
      have x16 := (ev_form a 16).trans h16
      exact ⟨.agg #[.slice s0 l0 c0, .slice s1 l1 c1, .slice s2 l2 c2, .slice s3 l3 c3, .slice s4 l4 c4, .int .i64 (W : Int), .int .i64 (H : Int), .int .i64 (T : Int), .int .i64 (P : Int), .slice va n1 vc, .slice vb n2 vd], by clear ho hr; go_simp, va, vc, vb, vd, B1, B2, us, rfl, ho, hr⟩
    · refine sz_last rfl (fun l a V hp hl hB ha => ?_)
      obtain ⟨va, vc, vb, vd, B1, B2, us, h17, ho, hr⟩ := (kn hp ha 17 6 (by kernel_rfl) (by kernel_rfl)).1 hl
      have x17 := (ev_form a 17).trans h17
      have x6 := (ev_form a 6).trans (old hp 6 (v := .pointer (some ⟨w.heap.size + 1 + 1, 0, none⟩)) (by kernel_rfl) (by kernel_rfl))
      obtain ⟨⟨oz, hz⟩, ⟨r0, f0⟩, ⟨r1, f1⟩, ⟨r2, f2⟩, ⟨r3, f3⟩, ⟨r4, f4⟩, ⟨r5, f5⟩, ⟨r6, f6⟩, ⟨r7, f7⟩, ⟨r8, f8⟩, ⟨r9, f9⟩, ⟨r10, f10⟩⟩ := unhide HZ V hB
      have hsk := fun k hk => setK_heap [.slice s0 l0 c0, .slice s1 l1 c1, .slice s2 l2 c2, .slice s3 l3 c3, .slice s4 l4 c4, .int .i64 (W : Int), .int .i64 (H : Int), .int .i64 (T : Int), .int .i64 (P : Int), .slice va n1 vc, .slice vb n2 vd] V (w.heap.size + 1 + 1) 0 k hk
      refine ⟨setK V (w.heap.size + 1 + 1) 0 [.slice s0 l0 c0, .slice s1 l1 c1, .slice s2 l2 c2, .slice s3 l3 c3, .slice s4 l4 c4, .int .i64 (W : Int), .int .i64 (H : Int), .int .i64 (T : Int), .int .i64 (P : Int), .slice va n1 vc, .slice vb n2 vd], by clear ho hr hz hsk; simp only [setK]; go_simp, ⟨va, vc, vb, vd, B1, B2, us, setK_at _ _ _ _ (fun i hi => ?_), ownsRow_keep ho (fun g o _ hc => (hsk g (ty_ne hc hz (by decide))).trans hc), hr.other hz (by decide) (by decide) (by decide) hsk, setK_below _ (btr (unhide HXB) hB) (by omega)⟩, trivial, fun _ _ _ _ => trivial⟩
      match i, hi with
      | 0, _ => exact ⟨_, r0⟩
      | 1, _ => exact ⟨_, r1⟩
      | 2, _ => exact ⟨_, r2⟩
      | 3, _ => exact ⟨_, r3⟩
      | 4, _ => exact ⟨_, r4⟩
      | 5, _ => exact ⟨_, r5⟩
      | 6, _ => exact ⟨_, r6⟩
      | 7, _ => exact ⟨_, r7⟩
      | 8, _ => exact ⟨_, r8⟩
      | 9, _ => exact ⟨_, r9⟩
      | 10, _ => exact ⟨_, r10⟩
      | i + 11, hi => simp at hi; omega
  case hf =>
    intro l a V hp hall
    obtain ⟨va, vc, vb, vd, B1, B2, us, hat, ho, hr, hb⟩ := hp.j.2 (hall 7 (by decide))
    obtain ⟨us1, rfl, hus⟩ := putAll_of [11, 12, 13, 14, 15, 16, 17] hp.nt hp.df (fun t ht => hp.keep t (dstIn (by kernel_rfl) ht))
    clear hp hall hus
    simp only [putAll, List.foldl, Act.put, List.setIfInBounds_toArray, List.set_cons_zero, List.set_cons_succ]
    have k0 := hat.get (j := 0) rfl
    have k1 := hat.get (j := 1) rfl
    have k2 := hat.get (j := 2) rfl
    have k3 := hat.get (j := 3) rfl
    have k4 := hat.get (j := 4) rfl
    have k5 := hat.get (j := 5) rfl
    have k6 := hat.get (j := 6) rfl
    have k7 := hat.get (j := 7) rfl
    have k8 := hat.get (j := 8) rfl
    have k9 := hat.get (j := 9) rfl
    have k10 := hat.get (j := 10) rfl
    simp only [Nat.zero_add] at k0 k1 k2 k3 k4 k5 k6 k7 k8 k9 k10
    have HR := hide (And.intro ho (And.intro hr hb))
    clear hat ho hr hb
    go_wp2_with fail
    obtain ⟨ho, hr, hb⟩ := unhide HR
    exact bodyPost_ret (v := _) (by simp [results, Tryz.results34, go_sem, k0, k1, k2, k3, k4, k5, k6, k7, k8, k9, k10]) rfl ⟨⟨va, vc, vb, vd, B1, B2, us, rfl, ho, hr⟩, hb⟩
end Go.Proofs.YtlldfaniddbjaaaGreatDoor
