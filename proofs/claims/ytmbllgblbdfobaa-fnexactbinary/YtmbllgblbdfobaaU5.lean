/- What the program's unaryOps and Unary answer. -/
import Derived.Test.YtmbllgblbdfobaaU4
import Derived.Test.YtmbllgblbdfobaaIT
import Derived.Deep.MidRow
namespace Go.Proofs.Ytmbllgblbdfobaa
open Go.RowKit
/-- The table of the unary operations. -/
def uTab : Array Value := #[.nilFunc, .nilFunc, .nilFunc, .nilFunc, .nilFunc, .nilFunc, .nilFunc, .nilFunc, .nilFunc, .nilFunc, .nilFunc, .nilFunc, .nilFunc, .nilFunc, .nilFunc, .nilFunc, .nilFunc, .nilFunc, .nilFunc, .func (.func 103) #[] #[], .func (.func 104) #[] #[], .func (.func 105) #[] #[], .func (.func 106) #[] #[], .func (.func 107) #[] #[], .func (.func 108) #[] #[]]
theorem uTab_one : (uTab.all fun x => x.oneCell') = true := by kernel_rfl
theorem there_new (w : World) (cs : Array Value) (t : TypeId) (n : Nat) (h : cs.size = n) : (w.alloc (.cells cs t)).there w.heap.size 0 n := by
  intro j hj
  rw [Nat.zero_add]
  constructor
  · rw [World.cell?_alloc_new, Array.getElem?_eq_getElem (by omega)]; rfl
  · exact World.frozen?_alloc_at _ _ _ _ rfl
theorem results_row {fn : Func} {p : Tmp} {ty : TypeId} (h : fn.results = #[.cell p ty]) (tmps : Array Value) (w : World) (b : Nat) (cs : List Value) (d : TypeDesc) (ht : tmps.getD p undef = .pointer (some ⟨b, 0, none⟩)) (hc : w.rangeAt b 0 cs)
    (hu : Try.prog.underlying ty = some d) (hd : d.isRow = true) (hi : (Try.prog.info? ty).map (·.size) = some cs.length) : (results fn tmps).run Try.prog w = .ok (.agg cs.toArray) w := by
  have hl := run_loadVar_mid (P := Try.prog) w b 0 ty cs d hc hu hd hi
  have ht' : tmps[p]?.getD undef = .pointer (some ⟨b, 0, none⟩) := by simpa using ht
  simp [results, h, ht', asAddr, hl]
theorem below_setCells {w W : World} (h : Below w.heap.size w W) (vs : List Value) : ∀ o, Below w.heap.size w (W.setCells w.heap.size o vs) := by
  induction vs generalizing W with
  | nil => intro o; exact h
  | cons v t ih => intro o; exact ih (bst h (Nat.le_refl _) v) (o + 1)
set_option maxRecDepth 100000 in
set_option maxHeartbeats 400000 in
theorem iUnaryOps (w : World) :
    Calls Try.prog 55 #[] w fun e w' => e = .returned (.agg uTab) ∧ Below w.heap.size w w' := by
  go_enter Try.func55, Try.ntmps55
  go_wp2_with (refine wpList_store_mid rfl 76 (.tmp 0) (.tmp 1) rfl w.heap.size 0 uTab rfl rfl (there_new _ _ _ _ rfl) (by kernel_rfl) uTab_one ?_)


  refine bodyPost_ret (v := .agg uTab) (results_row Try.results55 _ _ w.heap.size uTab.toList _ rfl (World.rangeAt_setCells_same _ _ _ _ (there_new _ _ _ _ rfl)) Try.underlying76 rfl (by kernel_rfl)) rfl ⟨rfl, ?_⟩
  exact below_setCells (bal (brf w) _) _ _
end Go.Proofs.Ytmbllgblbdfobaa
