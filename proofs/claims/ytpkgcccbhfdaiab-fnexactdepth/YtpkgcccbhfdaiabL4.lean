/- The specification's levels: one round of the loop. -/
import Derived.Test.YtpkgcccbhfdaiabRW6
import Derived.Test.YtpkgcccbhfdaiabL3
namespace Go.Proofs.Ytpkgcccbhfdaiab
open Go Go.RowKit Gs
set_option linter.unusedVariables false
set_option linter.unusedSimpArgs false
set_option maxRecDepth 100000
theorem wrap_in {n : Int} (h1 : -4294967296 ≤ n) (h2 : n ≤ 4294967296) : IntKind.i64.wrap n = n := by rw [IntKind.wrap_i64]; omega
def F2I (w0 : World) (k8 : Nat) (y : Int) : Nat → World → Value → Prop := fun k w v => k = k8 → ∃ M, v = .slice (some ⟨M, 0, none⟩) 1 1 ∧ w0.heap.size ≤ M ∧ w.cell? ⟨M, 0, none⟩ = some (.int .i64 y)
theorem F2I.lasts (w0 : World) (k8 : Nat) (y : Int) : Lasts (F2I w0 k8 y) := fun k w w' v hb h e => by
  obtain ⟨M, h1, h2, h3⟩ := h e
  exact ⟨M, h1, h2, cell_later hb h3⟩
def FQ7 (pb ab ao al ac k tb tl tc pa pc : Nat) (za zb la lb : Int) : Nat → Value → Prop
  | 0, v => v = .slice (some ⟨tb, 0, none⟩) tl tc
  | 1, v => v = .slice (some ⟨tb, 0, none⟩) tl tc
  | 2, v => v = .pointer (some ⟨pb, 3, none⟩)
  | 3, v => v = .slice (some ⟨ab, ao, none⟩) al ac
  | 4, v => v = .int .i64 (k : Int)
  | 5, v => v = .pointer (some ⟨ab, ao + k * 2, none⟩)
  | 6, v => v = .pointer (some ⟨ab, ao + k * 2, none⟩)
  | 7, v => v = .int .i64 za
  | 8, v => v = .int .i64 (pa : Int)
  | 9, v => v = .pointer (some ⟨tb, pa, none⟩)
  | 10, v => v = .int .i64 la
  | 11, v => v = .slice (some ⟨tb, 0, none⟩) tl tc
  | 12, v => v = .pointer (some ⟨pb, 3, none⟩)
  | 13, v => v = .slice (some ⟨ab, ao, none⟩) al ac
  | 14, v => v = .int .i64 (k : Int)
  | 15, v => v = .pointer (some ⟨ab, ao + k * 2, none⟩)
  | 16, v => v = .pointer (some ⟨ab, ao + k * 2 + 1, none⟩)
  | 17, v => v = .int .i64 zb
  | 18, v => v = .int .i64 (pc : Int)
  | 19, v => v = .pointer (some ⟨tb, pc, none⟩)
  | 20, v => v = .int .i64 lb
  | 21, v => v = .int .i64 (max la lb)
  | 22, v => v = .int .i64 (1 + max la lb)
  | _, _ => True
def levOps5 : Array Oper := #[{ dst := some 21, op := Op.move (Operand.tmp 3), type := 43, pos := "l11_balance.go:104", after := #[], guard := none }, { dst := some 22, op := Op.move (Operand.tmp 3), type := 43, pos := "l11_balance.go:104", after := #[], guard := none }, { dst := some 23, op := Op.fieldAddr 34 (Operand.tmp 1) 3, type := 0, pos := "l11_balance.go:104", after := #[], guard := none }, { dst := some 24, op := Op.load 31 (Operand.tmp 23), type := 31, pos := "l11_balance.go:104", after := #[{ on := 2, ground := Ground.data }], guard := none }, { dst := some 25, op := Op.move (Operand.tmp 4), type := 3, pos := "l11_balance.go:104", after := #[], guard := none }, { dst := some 26, op := Op.indexAddr 31 (Operand.tmp 24) (Operand.tmp 25), type := 0, pos := "l11_balance.go:104", after := #[{ on := 3, ground := Ground.data }, { on := 4, ground := Ground.data }], guard := none }, { dst := some 27, op := Op.fieldAddr 67 (Operand.tmp 26) 0, type := 0, pos := "l11_balance.go:104", after := #[{ on := 5, ground := Ground.data }], guard := none }, { dst := some 28, op := Op.load 3 (Operand.tmp 27), type := 3, pos := "l11_balance.go:104", after := #[{ on := 6, ground := Ground.data }], guard := none }, { dst := some 29, op := Op.binOp BinOp.quo 3 (Operand.tmp 28) (Operand.const (Value.int IntKind.i64 2)) 3, type := 3, pos := "l11_balance.go:104", after := #[{ on := 7, ground := Ground.data }], guard := none }, { dst := some 30, op := Op.indexAddr 43 (Operand.tmp 22) (Operand.tmp 29), type := 0, pos := "l11_balance.go:104", after := #[{ on := 1, ground := Ground.data }, { on := 8, ground := Ground.data }], guard := none }, { dst := some 31, op := Op.load 3 (Operand.tmp 30), type := 3, pos := "l11_balance.go:104", after := #[{ on := 9, ground := Ground.data }], guard := none }, { dst := some 32, op := Op.move (Operand.tmp 3), type := 43, pos := "l11_balance.go:104", after := #[], guard := none }, { dst := some 33, op := Op.fieldAddr 34 (Operand.tmp 1) 3, type := 0, pos := "l11_balance.go:104", after := #[], guard := none }, { dst := some 34, op := Op.load 31 (Operand.tmp 33), type := 31, pos := "l11_balance.go:104", after := #[{ on := 12, ground := Ground.data }], guard := none }, { dst := some 35, op := Op.move (Operand.tmp 4), type := 3, pos := "l11_balance.go:104", after := #[], guard := none }, { dst := some 36, op := Op.indexAddr 31 (Operand.tmp 34) (Operand.tmp 35), type := 0, pos := "l11_balance.go:104", after := #[{ on := 13, ground := Ground.data }, { on := 14, ground := Ground.data }], guard := none }, { dst := some 37, op := Op.fieldAddr 67 (Operand.tmp 36) 1, type := 0, pos := "l11_balance.go:104", after := #[{ on := 15, ground := Ground.data }], guard := none }, { dst := some 38, op := Op.load 3 (Operand.tmp 37), type := 3, pos := "l11_balance.go:104", after := #[{ on := 16, ground := Ground.data }], guard := none }, { dst := some 39, op := Op.binOp BinOp.quo 3 (Operand.tmp 38) (Operand.const (Value.int IntKind.i64 2)) 3, type := 3, pos := "l11_balance.go:104", after := #[{ on := 17, ground := Ground.data }], guard := none }, { dst := some 40, op := Op.indexAddr 43 (Operand.tmp 32) (Operand.tmp 39), type := 0, pos := "l11_balance.go:104", after := #[{ on := 11, ground := Ground.data }, { on := 18, ground := Ground.data }], guard := none }, { dst := some 41, op := Op.load 3 (Operand.tmp 40), type := 3, pos := "l11_balance.go:104", after := #[{ on := 19, ground := Ground.data }], guard := none }, { dst := some 42, op := Op.call { callee := Callee.builtin Builtin.max, args := #[Operand.tmp 31, Operand.tmp 41], argTypes := #[3, 3] }, type := 3, pos := "l11_balance.go:104", after := #[{ on := 10, ground := Ground.data }, { on := 20, ground := Ground.data }], guard := none }, { dst := some 43, op := Op.binOp BinOp.add 3 (Operand.const (Value.int IntKind.i64 1)) (Operand.tmp 42) 3, type := 3, pos := "l11_balance.go:104", after := #[{ on := 21, ground := Ground.data }], guard := none }, { dst := some 44, op := Op.buildSlice 43 1 #[(0, Operand.tmp 43)], type := 43, pos := "l11_balance.go:104", after := #[{ on := 22, ground := Ground.data }], guard := none }, { dst := some 45, op := Op.call { callee := Callee.builtin Builtin.append, args := #[Operand.tmp 21, Operand.tmp 44], argTypes := #[43, 43] }, type := 43, pos := "l11_balance.go:104", after := #[{ on := 0, ground := Ground.data }, { on := 23, ground := Ground.data }], guard := none }, { dst := some 3, op := Op.assign (Operand.tmp 45), type := 43, pos := "l11_balance.go:104", after := #[{ on := 24, ground := Ground.data }, { on := 24, ground := Ground.chain }, { on := 0, ground := Ground.phase }, { on := 1, ground := Ground.phase }, { on := 2, ground := Ground.phase }, { on := 3, ground := Ground.phase }, { on := 4, ground := Ground.phase }, { on := 5, ground := Ground.phase }, { on := 6, ground := Ground.phase }, { on := 7, ground := Ground.phase }, { on := 8, ground := Ground.phase }, { on := 9, ground := Ground.phase }, { on := 10, ground := Ground.phase }, { on := 11, ground := Ground.phase }, { on := 12, ground := Ground.phase }, { on := 13, ground := Ground.phase }, { on := 14, ground := Ground.phase }, { on := 15, ground := Ground.phase }, { on := 16, ground := Ground.phase }, { on := 17, ground := Ground.phase }, { on := 18, ground := Ground.phase }, { on := 19, ground := Ground.phase }, { on := 20, ground := Ground.phase }, { on := 21, ground := Ground.phase }, { on := 22, ground := Ground.phase }, { on := 23, ground := Ground.phase }, { on := 24, ground := Ground.phase }], guard := none }]
set_option maxHeartbeats 16000000 in
theorem levRound {pb ab ao al ac k N tb tl tc pa pc : Nat} {acc : List Int} {za zb la lb : Int} {wr : World} {Q : Exit → Act → World → Prop} (HTV : Hid (OI N wr (.slice (some ⟨tb, 0, none⟩) tl tc) acc)) (HAL : Hid (acc.length ≤ 4194304)) (HSZ : Hid (N ≤ wr.heap.size)) (hkl : k < al) (hk3 : al ≤ 1048576) (HP3 : Hid (wr.cell? ⟨pb, 3, none⟩ = some (.slice (some ⟨ab, ao, none⟩) al ac))) (HZA : Hid (wr.cell? ⟨ab, ao + k * 2, none⟩ = some (.int .i64 za))) (HZB : Hid (wr.cell? ⟨ab, ao + k * 2 + 1, none⟩ = some (.int .i64 zb)))
    (HQA : Hid (Int.tdiv za 2 = (pa : Int))) (HQB : Hid (Int.tdiv zb 2 = (pc : Int))) (hpa : pa < tl) (hpc : pc < tl) (htl : tl ≤ 4194304)
    (HLA : Hid (wr.cell? ⟨tb, pa, none⟩ = some (.int .i64 la))) (HLB : Hid (wr.cell? ⟨tb, pc, none⟩ = some (.int .i64 lb))) (hla0 : 0 ≤ la) (hlb0 : 0 ≤ lb) (hla : la ≤ 1048576) (hlb : lb ≤ 1048576)
    (a0 : Act) (ha0 : a0.tmps.size = 47) (e1 : a0.eval (.tmp 1) = .pointer (some ⟨pb, 0, none⟩)) (e3 : a0.eval (.tmp 3) = .slice (some ⟨tb, 0, none⟩) tl tc) (e4 : a0.eval (.tmp 4) = .int .i64 (k : Int))
    (hQ : ∀ a V v, a.tmps.size = a0.tmps.size → a.defers = a0.defers → (∀ t, t ∉ [21, 22, 23, 24, 25, 26, 27, 28, 29, 30, 31, 32, 33, 34, 35, 36, 37, 38, 39, 40, 41, 42, 43, 44, 45, 3] → a.eval (.tmp t) = a0.eval (.tmp t)) → a.eval (.tmp 3) = v → OI N V v (acc ++ [(1 + max la lb)]) → Below N wr V → Q .normal a V) :
    (Code.region 5 levOps5 true).wp Try.prog Q a0 wr := by
  obtain ⟨i0, hi, hz0, hz1, hz2⟩ := info_parts info3
  have HI := hide (And.intro hi (And.intro hz0 (And.intro hz1 hz2)))
  have j1 : (0 : Int) ≤ (k : Int) := by omega
  have j2 : (k : Int) < (al : Int) := by omega
  have j3 : (0 : Int) ≤ (pa : Int) := by omega
  have j4 : (pa : Int) < (tl : Int) := by omega
  have j5 : (0 : Int) ≤ (pc : Int) := by omega
  have j6 : (pc : Int) < (tl : Int) := by omega
  clear hi hz0 hz1 hz2
  refine wp_plan (GB (FQ7 pb ab ao al ac k tb tl tc pa pc za zb la lb) (F2I wr 23 (1 + max la lb)) 24 (fun v V => OI N V v (acc ++ [(1 + max la lb)]) ∧ ∃ V0, Below wr.heap.size wr V0 ∧ V0.grownBy V (Value.slice (some ⟨tb, 0, none⟩) tl tc).ownBlock)) (JC wr 24) (by kernel_rfl) 47 ha0 (by kernel_rfl) ?hj ?hs ?hf
  case hj => exact fun _ => bdr (brf wr)
  case hs =>
    refine ⟨?_, ?_, ?_, ?_, ?_, ?_, ?_, ?_, ?_, ?_, ?_, ?_, ?_, ?_, ?_, ?_, ?_, ?_, ?_, ?_, ?_, ?_, ?_, ?_, ?_, ?_, trivial⟩
    · exact sb_val (by decide) (by decide) (fun l a w hp hu => ⟨(und hp (k := 0) (j := 24) (by kernel_rfl) hu), (und hp (k := 0) (j := 25) (by kernel_rfl) hu)⟩) rfl (fun l a V hp h1 hB ha => ⟨.slice (some ⟨tb, 0, none⟩) tl tc, by
        have x3 := (ev_form a 3).trans ((hp.fresh 25 _ 3 rfl rfl h1).trans e3)
        go_simp, rfl, fun e => absurd e (by decide)⟩)
    · exact sb_val (by decide) (by decide) (fun l a w hp hu => ⟨(und hp (k := 23) (j := 24) (by kernel_rfl) (und hp (k := 22) (j := 23) (by kernel_rfl) (und hp (k := 21) (j := 22) (by kernel_rfl) (und hp (k := 10) (j := 21) (by kernel_rfl) (und hp (k := 9) (j := 10) (by kernel_rfl) (und hp (k := 1) (j := 9) (by kernel_rfl) hu)))))), (und hp (k := 1) (j := 25) (by kernel_rfl) hu)⟩) rfl (fun l a V hp h1 hB ha => ⟨.slice (some ⟨tb, 0, none⟩) tl tc, by
        have x3 := (ev_form a 3).trans ((hp.fresh 25 _ 3 rfl rfl h1).trans e3)
        go_simp, rfl, fun e => absurd e (by decide)⟩)
    · exact sb_val (by decide) (by decide) (fun l a w hp hu => ⟨(und hp (k := 23) (j := 24) (by kernel_rfl) (und hp (k := 22) (j := 23) (by kernel_rfl) (und hp (k := 21) (j := 22) (by kernel_rfl) (und hp (k := 10) (j := 21) (by kernel_rfl) (und hp (k := 9) (j := 10) (by kernel_rfl) (und hp (k := 8) (j := 9) (by kernel_rfl) (und hp (k := 7) (j := 8) (by kernel_rfl) (und hp (k := 6) (j := 7) (by kernel_rfl) (und hp (k := 5) (j := 6) (by kernel_rfl) (und hp (k := 3) (j := 5) (by kernel_rfl) (und hp (k := 2) (j := 3) (by kernel_rfl) hu))))))))))), (und hp (k := 2) (j := 25) (by kernel_rfl) hu)⟩) rfl (fun l a V hp h1 hB ha => ⟨.pointer (some ⟨pb, 3, none⟩), by
        have x1 := (ev_form a 1).trans (old hp 1 (v := .pointer (some ⟨pb, 0, none⟩)) (by kernel_rfl) e1)
        go_simp, rfl, fun e => absurd e (by decide)⟩)
    · exact sb_val (by decide) (by decide) (fun l a w hp hu => ⟨(und hp (k := 23) (j := 24) (by kernel_rfl) (und hp (k := 22) (j := 23) (by kernel_rfl) (und hp (k := 21) (j := 22) (by kernel_rfl) (und hp (k := 10) (j := 21) (by kernel_rfl) (und hp (k := 9) (j := 10) (by kernel_rfl) (und hp (k := 8) (j := 9) (by kernel_rfl) (und hp (k := 7) (j := 8) (by kernel_rfl) (und hp (k := 6) (j := 7) (by kernel_rfl) (und hp (k := 5) (j := 6) (by kernel_rfl) (und hp (k := 3) (j := 5) (by kernel_rfl) hu)))))))))), (und hp (k := 3) (j := 25) (by kernel_rfl) hu)⟩) rfl (fun l a V hp h1 hB ha => ⟨.slice (some ⟨ab, ao, none⟩) al ac, by
        have x23 := (ev_form a 23).trans (show a.eval (.tmp 23) = .pointer (some ⟨pb, 3, none⟩) from (kn hp ha 23 2 (by kernel_rfl) (by kernel_rfl)).1)
        have mq := cell_later hB (unhide HP3)
        go_simp, rfl, fun e => absurd e (by decide)⟩)
    · exact sb_val (by decide) (by decide) (fun l a w hp hu => ⟨(und hp (k := 23) (j := 24) (by kernel_rfl) (und hp (k := 22) (j := 23) (by kernel_rfl) (und hp (k := 21) (j := 22) (by kernel_rfl) (und hp (k := 10) (j := 21) (by kernel_rfl) (und hp (k := 9) (j := 10) (by kernel_rfl) (und hp (k := 8) (j := 9) (by kernel_rfl) (und hp (k := 7) (j := 8) (by kernel_rfl) (und hp (k := 6) (j := 7) (by kernel_rfl) (und hp (k := 5) (j := 6) (by kernel_rfl) (und hp (k := 4) (j := 5) (by kernel_rfl) hu)))))))))), (und hp (k := 4) (j := 25) (by kernel_rfl) hu)⟩) rfl (fun l a V hp h1 hB ha => ⟨.int .i64 (k : Int), by
        have x4 := (ev_form a 4).trans (old hp 4 (v := .int .i64 (k : Int)) (by kernel_rfl) e4)
        go_simp, rfl, fun e => absurd e (by decide)⟩)
    · exact sb_val (by decide) (by decide) (fun l a w hp hu => ⟨(und hp (k := 23) (j := 24) (by kernel_rfl) (und hp (k := 22) (j := 23) (by kernel_rfl) (und hp (k := 21) (j := 22) (by kernel_rfl) (und hp (k := 10) (j := 21) (by kernel_rfl) (und hp (k := 9) (j := 10) (by kernel_rfl) (und hp (k := 8) (j := 9) (by kernel_rfl) (und hp (k := 7) (j := 8) (by kernel_rfl) (und hp (k := 6) (j := 7) (by kernel_rfl) (und hp (k := 5) (j := 6) (by kernel_rfl) hu))))))))), (und hp (k := 5) (j := 25) (by kernel_rfl) hu)⟩) rfl (fun l a V hp h1 hB ha => ⟨.pointer (some ⟨ab, ao + k * 2, none⟩), by
        have x24 := (ev_form a 24).trans (show a.eval (.tmp 24) = .slice (some ⟨ab, ao, none⟩) al ac from (kn hp ha 24 3 (by kernel_rfl) (by kernel_rfl)).1)
        have x25 := (ev_form a 25).trans (show a.eval (.tmp 25) = .int .i64 (k : Int) from (kn hp ha 25 4 (by kernel_rfl) (by kernel_rfl)).1)
        go_simp, rfl, fun e => absurd e (by decide)⟩)
    · exact sb_val (by decide) (by decide) (fun l a w hp hu => ⟨(und hp (k := 23) (j := 24) (by kernel_rfl) (und hp (k := 22) (j := 23) (by kernel_rfl) (und hp (k := 21) (j := 22) (by kernel_rfl) (und hp (k := 10) (j := 21) (by kernel_rfl) (und hp (k := 9) (j := 10) (by kernel_rfl) (und hp (k := 8) (j := 9) (by kernel_rfl) (und hp (k := 7) (j := 8) (by kernel_rfl) (und hp (k := 6) (j := 7) (by kernel_rfl) hu)))))))), (und hp (k := 6) (j := 25) (by kernel_rfl) hu)⟩) rfl (fun l a V hp h1 hB ha => ⟨.pointer (some ⟨ab, ao + k * 2, none⟩), by
        have x26 := (ev_form a 26).trans (show a.eval (.tmp 26) = .pointer (some ⟨ab, ao + k * 2, none⟩) from (kn hp ha 26 5 (by kernel_rfl) (by kernel_rfl)).1)
        go_simp, rfl, fun e => absurd e (by decide)⟩)
    · exact sb_val (by decide) (by decide) (fun l a w hp hu => ⟨(und hp (k := 23) (j := 24) (by kernel_rfl) (und hp (k := 22) (j := 23) (by kernel_rfl) (und hp (k := 21) (j := 22) (by kernel_rfl) (und hp (k := 10) (j := 21) (by kernel_rfl) (und hp (k := 9) (j := 10) (by kernel_rfl) (und hp (k := 8) (j := 9) (by kernel_rfl) (und hp (k := 7) (j := 8) (by kernel_rfl) hu))))))), (und hp (k := 7) (j := 25) (by kernel_rfl) hu)⟩) rfl (fun l a V hp h1 hB ha => ⟨.int .i64 za, by
        have x27 := (ev_form a 27).trans (show a.eval (.tmp 27) = .pointer (some ⟨ab, ao + k * 2, none⟩) from (kn hp ha 27 6 (by kernel_rfl) (by kernel_rfl)).1)
        have mz := cell_later hB (unhide HZA)
        go_simp, rfl, fun e => absurd e (by decide)⟩)
    · exact sb_val (by decide) (by decide) (fun l a w hp hu => ⟨(und hp (k := 23) (j := 24) (by kernel_rfl) (und hp (k := 22) (j := 23) (by kernel_rfl) (und hp (k := 21) (j := 22) (by kernel_rfl) (und hp (k := 10) (j := 21) (by kernel_rfl) (und hp (k := 9) (j := 10) (by kernel_rfl) (und hp (k := 8) (j := 9) (by kernel_rfl) hu)))))), (und hp (k := 8) (j := 25) (by kernel_rfl) hu)⟩) rfl (fun l a V hp h1 hB ha => ⟨.int .i64 (pa : Int), by
        have x28 := (ev_form a 28).trans (show a.eval (.tmp 28) = .int .i64 za from (kn hp ha 28 7 (by kernel_rfl) (by kernel_rfl)).1)
        have hw := unhide HQA; have hw2 := wrap_in (n := (pa : Int)) (by omega) (by omega)
        go_simp, rfl, fun e => absurd e (by decide)⟩)
    · exact sb_val (by decide) (by decide) (fun l a w hp hu => ⟨(und hp (k := 23) (j := 24) (by kernel_rfl) (und hp (k := 22) (j := 23) (by kernel_rfl) (und hp (k := 21) (j := 22) (by kernel_rfl) (und hp (k := 10) (j := 21) (by kernel_rfl) (und hp (k := 9) (j := 10) (by kernel_rfl) hu))))), (und hp (k := 9) (j := 25) (by kernel_rfl) hu)⟩) rfl (fun l a V hp h1 hB ha => ⟨.pointer (some ⟨tb, pa, none⟩), by
        have x22 := (ev_form a 22).trans (show a.eval (.tmp 22) = .slice (some ⟨tb, 0, none⟩) tl tc from (kn hp ha 22 1 (by kernel_rfl) (by kernel_rfl)).1)
        have x29 := (ev_form a 29).trans (show a.eval (.tmp 29) = .int .i64 (pa : Int) from (kn hp ha 29 8 (by kernel_rfl) (by kernel_rfl)).1)
        go_simp, rfl, fun e => absurd e (by decide)⟩)
    · exact sb_val (by decide) (by decide) (fun l a w hp hu => ⟨(und hp (k := 23) (j := 24) (by kernel_rfl) (und hp (k := 22) (j := 23) (by kernel_rfl) (und hp (k := 21) (j := 22) (by kernel_rfl) (und hp (k := 10) (j := 21) (by kernel_rfl) hu)))), (und hp (k := 10) (j := 25) (by kernel_rfl) hu)⟩) rfl (fun l a V hp h1 hB ha => ⟨.int .i64 la, by
        have x30 := (ev_form a 30).trans (show a.eval (.tmp 30) = .pointer (some ⟨tb, pa, none⟩) from (kn hp ha 30 9 (by kernel_rfl) (by kernel_rfl)).1)
        have mz := cell_later hB (unhide HLA)
        go_simp, rfl, fun e => absurd e (by decide)⟩)
    · exact sb_val (by decide) (by decide) (fun l a w hp hu => ⟨(und hp (k := 23) (j := 24) (by kernel_rfl) (und hp (k := 22) (j := 23) (by kernel_rfl) (und hp (k := 21) (j := 22) (by kernel_rfl) (und hp (k := 20) (j := 21) (by kernel_rfl) (und hp (k := 19) (j := 20) (by kernel_rfl) (und hp (k := 11) (j := 19) (by kernel_rfl) hu)))))), (und hp (k := 11) (j := 25) (by kernel_rfl) hu)⟩) rfl (fun l a V hp h1 hB ha => ⟨.slice (some ⟨tb, 0, none⟩) tl tc, by
        have x3 := (ev_form a 3).trans ((hp.fresh 25 _ 3 rfl rfl h1).trans e3)
        go_simp, rfl, fun e => absurd e (by decide)⟩)
    · exact sb_val (by decide) (by decide) (fun l a w hp hu => ⟨(und hp (k := 23) (j := 24) (by kernel_rfl) (und hp (k := 22) (j := 23) (by kernel_rfl) (und hp (k := 21) (j := 22) (by kernel_rfl) (und hp (k := 20) (j := 21) (by kernel_rfl) (und hp (k := 19) (j := 20) (by kernel_rfl) (und hp (k := 18) (j := 19) (by kernel_rfl) (und hp (k := 17) (j := 18) (by kernel_rfl) (und hp (k := 16) (j := 17) (by kernel_rfl) (und hp (k := 15) (j := 16) (by kernel_rfl) (und hp (k := 13) (j := 15) (by kernel_rfl) (und hp (k := 12) (j := 13) (by kernel_rfl) hu))))))))))), (und hp (k := 12) (j := 25) (by kernel_rfl) hu)⟩) rfl (fun l a V hp h1 hB ha => ⟨.pointer (some ⟨pb, 3, none⟩), by
        have x1 := (ev_form a 1).trans (old hp 1 (v := .pointer (some ⟨pb, 0, none⟩)) (by kernel_rfl) e1)
        go_simp, rfl, fun e => absurd e (by decide)⟩)
    · exact sb_val (by decide) (by decide) (fun l a w hp hu => ⟨(und hp (k := 23) (j := 24) (by kernel_rfl) (und hp (k := 22) (j := 23) (by kernel_rfl) (und hp (k := 21) (j := 22) (by kernel_rfl) (und hp (k := 20) (j := 21) (by kernel_rfl) (und hp (k := 19) (j := 20) (by kernel_rfl) (und hp (k := 18) (j := 19) (by kernel_rfl) (und hp (k := 17) (j := 18) (by kernel_rfl) (und hp (k := 16) (j := 17) (by kernel_rfl) (und hp (k := 15) (j := 16) (by kernel_rfl) (und hp (k := 13) (j := 15) (by kernel_rfl) hu)))))))))), (und hp (k := 13) (j := 25) (by kernel_rfl) hu)⟩) rfl (fun l a V hp h1 hB ha => ⟨.slice (some ⟨ab, ao, none⟩) al ac, by
        have x33 := (ev_form a 33).trans (show a.eval (.tmp 33) = .pointer (some ⟨pb, 3, none⟩) from (kn hp ha 33 12 (by kernel_rfl) (by kernel_rfl)).1)
        have mq := cell_later hB (unhide HP3)
        go_simp, rfl, fun e => absurd e (by decide)⟩)
    · exact sb_val (by decide) (by decide) (fun l a w hp hu => ⟨(und hp (k := 23) (j := 24) (by kernel_rfl) (und hp (k := 22) (j := 23) (by kernel_rfl) (und hp (k := 21) (j := 22) (by kernel_rfl) (und hp (k := 20) (j := 21) (by kernel_rfl) (und hp (k := 19) (j := 20) (by kernel_rfl) (und hp (k := 18) (j := 19) (by kernel_rfl) (und hp (k := 17) (j := 18) (by kernel_rfl) (und hp (k := 16) (j := 17) (by kernel_rfl) (und hp (k := 15) (j := 16) (by kernel_rfl) (und hp (k := 14) (j := 15) (by kernel_rfl) hu)))))))))), (und hp (k := 14) (j := 25) (by kernel_rfl) hu)⟩) rfl (fun l a V hp h1 hB ha => ⟨.int .i64 (k : Int), by
        have x4 := (ev_form a 4).trans (old hp 4 (v := .int .i64 (k : Int)) (by kernel_rfl) e4)
        go_simp, rfl, fun e => absurd e (by decide)⟩)
    · exact sb_val (by decide) (by decide) (fun l a w hp hu => ⟨(und hp (k := 23) (j := 24) (by kernel_rfl) (und hp (k := 22) (j := 23) (by kernel_rfl) (und hp (k := 21) (j := 22) (by kernel_rfl) (und hp (k := 20) (j := 21) (by kernel_rfl) (und hp (k := 19) (j := 20) (by kernel_rfl) (und hp (k := 18) (j := 19) (by kernel_rfl) (und hp (k := 17) (j := 18) (by kernel_rfl) (und hp (k := 16) (j := 17) (by kernel_rfl) (und hp (k := 15) (j := 16) (by kernel_rfl) hu))))))))), (und hp (k := 15) (j := 25) (by kernel_rfl) hu)⟩) rfl (fun l a V hp h1 hB ha => ⟨.pointer (some ⟨ab, ao + k * 2, none⟩), by
        have x34 := (ev_form a 34).trans (show a.eval (.tmp 34) = .slice (some ⟨ab, ao, none⟩) al ac from (kn hp ha 34 13 (by kernel_rfl) (by kernel_rfl)).1)
        have x35 := (ev_form a 35).trans (show a.eval (.tmp 35) = .int .i64 (k : Int) from (kn hp ha 35 14 (by kernel_rfl) (by kernel_rfl)).1)
        go_simp, rfl, fun e => absurd e (by decide)⟩)
    · exact sb_val (by decide) (by decide) (fun l a w hp hu => ⟨(und hp (k := 23) (j := 24) (by kernel_rfl) (und hp (k := 22) (j := 23) (by kernel_rfl) (und hp (k := 21) (j := 22) (by kernel_rfl) (und hp (k := 20) (j := 21) (by kernel_rfl) (und hp (k := 19) (j := 20) (by kernel_rfl) (und hp (k := 18) (j := 19) (by kernel_rfl) (und hp (k := 17) (j := 18) (by kernel_rfl) (und hp (k := 16) (j := 17) (by kernel_rfl) hu)))))))), (und hp (k := 16) (j := 25) (by kernel_rfl) hu)⟩) rfl (fun l a V hp h1 hB ha => ⟨.pointer (some ⟨ab, ao + k * 2 + 1, none⟩), by
        have x36 := (ev_form a 36).trans (show a.eval (.tmp 36) = .pointer (some ⟨ab, ao + k * 2, none⟩) from (kn hp ha 36 15 (by kernel_rfl) (by kernel_rfl)).1)
        go_simp, rfl, fun e => absurd e (by decide)⟩)
    · exact sb_val (by decide) (by decide) (fun l a w hp hu => ⟨(und hp (k := 23) (j := 24) (by kernel_rfl) (und hp (k := 22) (j := 23) (by kernel_rfl) (und hp (k := 21) (j := 22) (by kernel_rfl) (und hp (k := 20) (j := 21) (by kernel_rfl) (und hp (k := 19) (j := 20) (by kernel_rfl) (und hp (k := 18) (j := 19) (by kernel_rfl) (und hp (k := 17) (j := 18) (by kernel_rfl) hu))))))), (und hp (k := 17) (j := 25) (by kernel_rfl) hu)⟩) rfl (fun l a V hp h1 hB ha => ⟨.int .i64 zb, by
        have x37 := (ev_form a 37).trans (show a.eval (.tmp 37) = .pointer (some ⟨ab, ao + k * 2 + 1, none⟩) from (kn hp ha 37 16 (by kernel_rfl) (by kernel_rfl)).1)
        have mz := cell_later hB (unhide HZB)
        go_simp, rfl, fun e => absurd e (by decide)⟩)
    · exact sb_val (by decide) (by decide) (fun l a w hp hu => ⟨(und hp (k := 23) (j := 24) (by kernel_rfl) (und hp (k := 22) (j := 23) (by kernel_rfl) (und hp (k := 21) (j := 22) (by kernel_rfl) (und hp (k := 20) (j := 21) (by kernel_rfl) (und hp (k := 19) (j := 20) (by kernel_rfl) (und hp (k := 18) (j := 19) (by kernel_rfl) hu)))))), (und hp (k := 18) (j := 25) (by kernel_rfl) hu)⟩) rfl (fun l a V hp h1 hB ha => ⟨.int .i64 (pc : Int), by
        have x38 := (ev_form a 38).trans (show a.eval (.tmp 38) = .int .i64 zb from (kn hp ha 38 17 (by kernel_rfl) (by kernel_rfl)).1)
        have hw := unhide HQB; have hw2 := wrap_in (n := (pc : Int)) (by omega) (by omega)
        go_simp, rfl, fun e => absurd e (by decide)⟩)
    · exact sb_val (by decide) (by decide) (fun l a w hp hu => ⟨(und hp (k := 23) (j := 24) (by kernel_rfl) (und hp (k := 22) (j := 23) (by kernel_rfl) (und hp (k := 21) (j := 22) (by kernel_rfl) (und hp (k := 20) (j := 21) (by kernel_rfl) (und hp (k := 19) (j := 20) (by kernel_rfl) hu))))), (und hp (k := 19) (j := 25) (by kernel_rfl) hu)⟩) rfl (fun l a V hp h1 hB ha => ⟨.pointer (some ⟨tb, pc, none⟩), by
        have x32 := (ev_form a 32).trans (show a.eval (.tmp 32) = .slice (some ⟨tb, 0, none⟩) tl tc from (kn hp ha 32 11 (by kernel_rfl) (by kernel_rfl)).1)
        have x39 := (ev_form a 39).trans (show a.eval (.tmp 39) = .int .i64 (pc : Int) from (kn hp ha 39 18 (by kernel_rfl) (by kernel_rfl)).1)
        go_simp, rfl, fun e => absurd e (by decide)⟩)
    · exact sb_val (by decide) (by decide) (fun l a w hp hu => ⟨(und hp (k := 23) (j := 24) (by kernel_rfl) (und hp (k := 22) (j := 23) (by kernel_rfl) (und hp (k := 21) (j := 22) (by kernel_rfl) (und hp (k := 20) (j := 21) (by kernel_rfl) hu)))), (und hp (k := 20) (j := 25) (by kernel_rfl) hu)⟩) rfl (fun l a V hp h1 hB ha => ⟨.int .i64 lb, by
        have x40 := (ev_form a 40).trans (show a.eval (.tmp 40) = .pointer (some ⟨tb, pc, none⟩) from (kn hp ha 40 19 (by kernel_rfl) (by kernel_rfl)).1)
        have mz := cell_later hB (unhide HLB)
        go_simp, rfl, fun e => absurd e (by decide)⟩)
    · exact sb_val (by decide) (by decide) (fun l a w hp hu => ⟨(und hp (k := 23) (j := 24) (by kernel_rfl) (und hp (k := 22) (j := 23) (by kernel_rfl) (und hp (k := 21) (j := 22) (by kernel_rfl) hu))), (und hp (k := 21) (j := 25) (by kernel_rfl) hu)⟩) rfl (fun l a V hp h1 hB ha => ⟨.int .i64 (max la lb), by
        have x31 := (ev_form a 31).trans (show a.eval (.tmp 31) = .int .i64 la from (kn hp ha 31 10 (by kernel_rfl) (by kernel_rfl)).1)
        have x41 := (ev_form a 41).trans (show a.eval (.tmp 41) = .int .i64 lb from (kn hp ha 41 20 (by kernel_rfl) (by kernel_rfl)).1)
        have hw := (max_if la lb).symm
        go_simp, rfl, fun e => absurd e (by decide)⟩)
    · exact sb_val (by decide) (by decide) (fun l a w hp hu => ⟨(und hp (k := 23) (j := 24) (by kernel_rfl) (und hp (k := 22) (j := 23) (by kernel_rfl) hu)), (und hp (k := 22) (j := 25) (by kernel_rfl) hu)⟩) rfl (fun l a V hp h1 hB ha => ⟨.int .i64 (1 + max la lb), by
        have x42 := (ev_form a 42).trans (show a.eval (.tmp 42) = .int .i64 (max la lb) from (kn hp ha 42 21 (by kernel_rfl) (by kernel_rfl)).1)
        have hw2 := wrap_in (n := 1 + max la lb) (by omega) (by omega)
        go_simp, rfl, fun e => absurd e (by decide)⟩)
    · exact sb_new (F2I.lasts _ _ _) (by decide) (by decide) (fun l a w hp hu => ⟨(und hp (k := 23) (j := 24) (by kernel_rfl) hu), (und hp (k := 23) (j := 25) (by kernel_rfl) hu)⟩) rfl (fun l a V hp h1 hB ha => ⟨.slice (some ⟨V.heap.size, 0, none⟩) 1 1, .cells #[.int .i64 (1 + max la lb)] 3, by
        have x43 := (ev_form a 43).trans (show a.eval (.tmp 43) = .int .i64 (1 + max la lb) from (kn hp ha 43 22 (by kernel_rfl) (by kernel_rfl)).1)
        go_simp, trivial, fun _ => ⟨V.heap.size, rfl, hB.size, by rw [World.cell?_alloc_new]; rfl⟩⟩)
    · refine sb_app (fun l a w hp hu => (und hp (k := 24) (j := 25) (by kernel_rfl) hu)) rfl (fun l a V hp h1 hB ha => ?_)
      have hvr : a.eval (.tmp 21) = .slice (some ⟨tb, 0, none⟩) tl tc := (kn hp ha 21 0 (by kernel_rfl) (by kernel_rfl)).1
      obtain ⟨M1, hvx, hM, hMc⟩ := (kn hp ha 44 23 (by kernel_rfl) (by kernel_rfl)).2.1 h1 rfl
      have hot := (unhide HTV).later hB
      obtain ⟨v', w', hr, h2, h3, _⟩ := run_append_own (P := Try.prog) V N 43 43 3 i0 (.int .i64 0) 1 8 Try.underlying43 (unhide HI).1 (unhide HI).2.1 (unhide HI).2.2.1 (unhide HI).2.2.2 rfl (by decide) (.slice (some ⟨tb, 0, none⟩) tl tc) acc.length _ hot ⟨M1, 0, none⟩ 1 1 [.int .i64 (1 + max la lb)] rfl (by
        intro j u hj
        match j, hj with
        | 0, hj => simp at hj; subst hj; simpa [Addr.add] using hMc
        | j + 1, hj => simp at hj) (oneI _) (by have := unhide HAL; unfold maxLen; omega) (by have := unhide HAL; omega) (by have h1 := hB.size; have h2 := unhide HSZ; omega)
      refine ⟨v', w', ?_, ⟨OI.step h2, V, hB, h3⟩, trivial⟩
      unfold execOp
      simp only [resolve, invoke, builtin, Sem.run_bind, Sem.run_pure, Result.andThen_ok, List.map_toArray, List.map_cons, List.map_nil, hvr, hvx, hr]
    · refine sb_last (t := 45) rfl rfl (by kernel_rfl) (fun l a V hp => ?_) (fun _ => trivial)
      have x45 := ev_form a 45
      generalize a.eval (.tmp 45) = tv' at *
      go_simp
  case hf =>
    intro l a V hp hall
    obtain ⟨h1, V0, hV0, hgr⟩ := (hp.good 25 _ 3 rfl rfl (hall 25 (by decide))).2.2 (.inr rfl)
    exact hQ a V _ hp.nt hp.df (fun t ht => hp.keep t (dstIn (by kernel_rfl) ht)) rfl h1 (below_grown (hV0.mono (unhide HSZ)) hgr (by have := hV0.size; have := unhide HSZ; omega) (unhide HTV).row)
end Go.Proofs.Ytpkgcccbhfdaiab
