/- The specification's FsmOK, where the counts fit. -/
import Derived.Test.YtjbbjgoofenkpaaG1
namespace Go.Proofs.Ytjbbjgoofenkpaa
open Go.RowKit Gs
set_option linter.unusedVariables false
set_option linter.unusedSimpArgs false
set_option maxRecDepth 100000
theorem sKnownX (s : ByteArray) (w : World) (hs : s.size ≤ maxLen) : Calls Try.prog 32 #[.string s] w fun e w' => e = .returned (.bool ((L s).all Vb.knB)) ∧ Below w.heap.size w w' := by
  refine (sKnown s w hs).mono ?_
  rintro e w' ⟨rfl, rfl⟩
  exact ⟨rfl, brf _⟩
def FS7 (ins : Int) (B N2 N3 N4 n1 n2 c2 c3 c4 y1 y2 b2 o2 b3 o3 b4 o4 s N : Nat) (x1 x2 : Option Addr) (st : ByteArray) : Nat → Value → Prop
  | 0, v => v = .pointer (some ⟨B, 2, none⟩)
  | 1, v => v = .slice (some ⟨b2, o2, none⟩) N2 c2
  | 2, v => v = .int .i64 (s : Int)
  | 3, v => v = .pointer (some ⟨b2, o2 + s, none⟩)
  | 4, v => v = .string st
  | 5, v => v = .int .i64 (st.size : Int)
  | 6, v => v = .bool (decide (64 < (st.size : Int)))
  | 7, v => v = .bool (decide (64 < (st.size : Int)))
  | 8, v => (decide (64 < (st.size : Int))) = false → v = .pointer (some ⟨B, 2, none⟩)
  | 9, v => (decide (64 < (st.size : Int))) = false → v = .slice (some ⟨b2, o2, none⟩) N2 c2
  | 10, v => (decide (64 < (st.size : Int))) = false → v = .int .i64 (s : Int)
  | 11, v => (decide (64 < (st.size : Int))) = false → v = .pointer (some ⟨b2, o2 + s, none⟩)
  | 12, v => (decide (64 < (st.size : Int))) = false → v = .string st
  | 13, v => (decide (64 < (st.size : Int))) = false → v = .bool ((L st).all Vb.knB)
  | 14, v => (decide (64 < (st.size : Int))) = false → v = .bool (!((L st).all Vb.knB))
  | 15, v => v = .bool (decide (64 < (st.size : Int)) || (!((L st).all Vb.knB)))
  | 16, v => v = .bool (decide (64 < (st.size : Int)) || (!((L st).all Vb.knB)))
  | 17, v => (decide (64 < (st.size : Int)) || (!((L st).all Vb.knB))) = false → v = .pointer (some ⟨B, 3, none⟩)
  | 18, v => (decide (64 < (st.size : Int)) || (!((L st).all Vb.knB))) = false → v = .slice (some ⟨b3, o3, none⟩) N3 c3
  | 19, v => (decide (64 < (st.size : Int)) || (!((L st).all Vb.knB))) = false → v = .int .i64 (s : Int)
  | 20, v => (decide (64 < (st.size : Int)) || (!((L st).all Vb.knB))) = false → v = .pointer (some ⟨b3, o3 + s, none⟩)
  | 21, v => (decide (64 < (st.size : Int)) || (!((L st).all Vb.knB))) = false → v = .slice x1 n1 y1
  | 22, v => (decide (64 < (st.size : Int)) || (!((L st).all Vb.knB))) = false → v = .int .i64 (n1 : Int)
  | 23, v => (decide (64 < (st.size : Int)) || (!((L st).all Vb.knB))) = false → v = .pointer (some ⟨B, 0, none⟩)
  | 24, v => (decide (64 < (st.size : Int)) || (!((L st).all Vb.knB))) = false → v = .int .i64 ins
  | 25, v => (decide (64 < (st.size : Int)) || (!((L st).all Vb.knB))) = false → v = .int .i64 (N : Int)
  | 26, v => (decide (64 < (st.size : Int)) || (!((L st).all Vb.knB))) = false → v = .bool ((n1 : Int) != (N : Int))
  | 27, v => v = .bool ((decide (64 < (st.size : Int)) || (!((L st).all Vb.knB))) || ((n1 : Int) != (N : Int)))
  | 28, v => v = .bool ((decide (64 < (st.size : Int)) || (!((L st).all Vb.knB))) || ((n1 : Int) != (N : Int)))
  | 29, v => ((decide (64 < (st.size : Int)) || (!((L st).all Vb.knB))) || ((n1 : Int) != (N : Int))) = false → v = .pointer (some ⟨B, 4, none⟩)
  | 30, v => ((decide (64 < (st.size : Int)) || (!((L st).all Vb.knB))) || ((n1 : Int) != (N : Int))) = false → v = .slice (some ⟨b4, o4, none⟩) N4 c4
  | 31, v => ((decide (64 < (st.size : Int)) || (!((L st).all Vb.knB))) || ((n1 : Int) != (N : Int))) = false → v = .int .i64 (s : Int)
  | 32, v => ((decide (64 < (st.size : Int)) || (!((L st).all Vb.knB))) || ((n1 : Int) != (N : Int))) = false → v = .pointer (some ⟨b4, o4 + s, none⟩)
  | 33, v => ((decide (64 < (st.size : Int)) || (!((L st).all Vb.knB))) || ((n1 : Int) != (N : Int))) = false → v = .slice x2 n2 y2
  | 34, v => ((decide (64 < (st.size : Int)) || (!((L st).all Vb.knB))) || ((n1 : Int) != (N : Int))) = false → v = .int .i64 (n2 : Int)
  | 35, v => ((decide (64 < (st.size : Int)) || (!((L st).all Vb.knB))) || ((n1 : Int) != (N : Int))) = false → v = .pointer (some ⟨B, 0, none⟩)
  | 36, v => ((decide (64 < (st.size : Int)) || (!((L st).all Vb.knB))) || ((n1 : Int) != (N : Int))) = false → v = .int .i64 ins
  | 37, v => ((decide (64 < (st.size : Int)) || (!((L st).all Vb.knB))) || ((n1 : Int) != (N : Int))) = false → v = .int .i64 (N : Int)
  | 38, v => ((decide (64 < (st.size : Int)) || (!((L st).all Vb.knB))) || ((n1 : Int) != (N : Int))) = false → v = .bool ((n2 : Int) != (N : Int))
  | 39, v => v = .bool (((decide (64 < (st.size : Int)) || (!((L st).all Vb.knB))) || ((n1 : Int) != (N : Int))) || ((n2 : Int) != (N : Int)))
  | _, _ => True
def FS12 (ob z : Int) (B N2 N3 N4 n1 n2 c3 c4 y1 y2 b3 o3 b4 o4 bx ox bz oz s i : Nat) (y : ByteArray) : Nat → Value → Prop
  | 0, v => v = .pointer (some ⟨B, 3, none⟩)
  | 1, v => v = .slice (some ⟨b3, o3, none⟩) N3 c3
  | 2, v => v = .int .i64 (s : Int)
  | 3, v => v = .pointer (some ⟨b3, o3 + s, none⟩)
  | 4, v => v = .slice (some ⟨bx, ox, none⟩) n1 y1
  | 5, v => v = .int .i64 (i : Int)
  | 6, v => v = .pointer (some ⟨bx, ox + i, none⟩)
  | 7, v => v = .int .i64 z
  | 8, v => v = .bool (decide (z < 0))
  | 9, v => v = .bool (decide (z < 0))
  | 10, v => (decide (z < 0)) = false → v = .pointer (some ⟨B, 3, none⟩)
  | 11, v => (decide (z < 0)) = false → v = .slice (some ⟨b3, o3, none⟩) N3 c3
  | 12, v => (decide (z < 0)) = false → v = .int .i64 (s : Int)
  | 13, v => (decide (z < 0)) = false → v = .pointer (some ⟨b3, o3 + s, none⟩)
  | 14, v => (decide (z < 0)) = false → v = .slice (some ⟨bx, ox, none⟩) n1 y1
  | 15, v => (decide (z < 0)) = false → v = .int .i64 (i : Int)
  | 16, v => (decide (z < 0)) = false → v = .pointer (some ⟨bx, ox + i, none⟩)
  | 17, v => (decide (z < 0)) = false → v = .int .i64 z
  | 18, v => (decide (z < 0)) = false → v = .int .i64 (N2 : Int)
  | 19, v => (decide (z < 0)) = false → v = .bool (decide ((N2 : Int) ≤ z))
  | 20, v => v = .bool ((decide (z < 0)) || (decide ((N2 : Int) ≤ z)))
  | 21, v => v = .bool ((decide (z < 0)) || (decide ((N2 : Int) ≤ z)))
  | 22, v => ((decide (z < 0)) || (decide ((N2 : Int) ≤ z))) = false → v = .pointer (some ⟨B, 4, none⟩)
  | 23, v => ((decide (z < 0)) || (decide ((N2 : Int) ≤ z))) = false → v = .slice (some ⟨b4, o4, none⟩) N4 c4
  | 24, v => ((decide (z < 0)) || (decide ((N2 : Int) ≤ z))) = false → v = .int .i64 (s : Int)
  | 25, v => ((decide (z < 0)) || (decide ((N2 : Int) ≤ z))) = false → v = .pointer (some ⟨b4, o4 + s, none⟩)
  | 26, v => ((decide (z < 0)) || (decide ((N2 : Int) ≤ z))) = false → v = .slice (some ⟨bz, oz, none⟩) n2 y2
  | 27, v => ((decide (z < 0)) || (decide ((N2 : Int) ≤ z))) = false → v = .int .i64 (i : Int)
  | 28, v => ((decide (z < 0)) || (decide ((N2 : Int) ≤ z))) = false → v = .pointer (some ⟨bz, oz + i, none⟩)
  | 29, v => ((decide (z < 0)) || (decide ((N2 : Int) ≤ z))) = false → v = .string y
  | 30, v => ((decide (z < 0)) || (decide ((N2 : Int) ≤ z))) = false → v = .int .i64 (y.size : Int)
  | 31, v => ((decide (z < 0)) || (decide ((N2 : Int) ≤ z))) = false → v = .pointer (some ⟨B, 1, none⟩)
  | 32, v => ((decide (z < 0)) || (decide ((N2 : Int) ≤ z))) = false → v = .int .i64 ob
  | 33, v => ((decide (z < 0)) || (decide ((N2 : Int) ≤ z))) = false → v = .bool ((y.size : Int) != ob)
  | 34, v => v = .bool (((decide (z < 0)) || (decide ((N2 : Int) ≤ z))) || ((y.size : Int) != ob))
  | 35, v => v = .bool (((decide (z < 0)) || (decide ((N2 : Int) ≤ z))) || ((y.size : Int) != ob))
  | 36, v => (((decide (z < 0)) || (decide ((N2 : Int) ≤ z))) || ((y.size : Int) != ob)) = false → v = .pointer (some ⟨B, 4, none⟩)
  | 37, v => (((decide (z < 0)) || (decide ((N2 : Int) ≤ z))) || ((y.size : Int) != ob)) = false → v = .slice (some ⟨b4, o4, none⟩) N4 c4
  | 38, v => (((decide (z < 0)) || (decide ((N2 : Int) ≤ z))) || ((y.size : Int) != ob)) = false → v = .int .i64 (s : Int)
  | 39, v => (((decide (z < 0)) || (decide ((N2 : Int) ≤ z))) || ((y.size : Int) != ob)) = false → v = .pointer (some ⟨b4, o4 + s, none⟩)
  | 40, v => (((decide (z < 0)) || (decide ((N2 : Int) ≤ z))) || ((y.size : Int) != ob)) = false → v = .slice (some ⟨bz, oz, none⟩) n2 y2
  | 41, v => (((decide (z < 0)) || (decide ((N2 : Int) ≤ z))) || ((y.size : Int) != ob)) = false → v = .int .i64 (i : Int)
  | 42, v => (((decide (z < 0)) || (decide ((N2 : Int) ≤ z))) || ((y.size : Int) != ob)) = false → v = .pointer (some ⟨bz, oz + i, none⟩)
  | 43, v => (((decide (z < 0)) || (decide ((N2 : Int) ≤ z))) || ((y.size : Int) != ob)) = false → v = .string y
  | 44, v => (((decide (z < 0)) || (decide ((N2 : Int) ≤ z))) || ((y.size : Int) != ob)) = false → v = .bool ((L y).all Vb.knB)
  | 45, v => (((decide (z < 0)) || (decide ((N2 : Int) ≤ z))) || ((y.size : Int) != ob)) = false → v = .bool (!((L y).all Vb.knB))
  | 46, v => v = .bool ((((decide (z < 0)) || (decide ((N2 : Int) ≤ z))) || ((y.size : Int) != ob)) || (!((L y).all Vb.knB)))
  | _, _ => True
def FS17 (B N2 c2 b2 o2 s t : Nat) (st tt : ByteArray) : Nat → Value → Prop
  | 0, v => v = .pointer (some ⟨B, 2, none⟩)
  | 1, v => v = .slice (some ⟨b2, o2, none⟩) N2 c2
  | 2, v => v = .int .i64 (t : Int)
  | 3, v => v = .pointer (some ⟨b2, o2 + t, none⟩)
  | 4, v => v = .string tt
  | 5, v => v = .pointer (some ⟨B, 2, none⟩)
  | 6, v => v = .slice (some ⟨b2, o2, none⟩) N2 c2
  | 7, v => v = .int .i64 (s : Int)
  | 8, v => v = .pointer (some ⟨b2, o2 + s, none⟩)
  | 9, v => v = .string st
  | 10, v => v = .bool (tt.toList == st.toList)
  | _, _ => True
/-- The head of a state's row is wrong. -/
def badHead (st : ByteArray) (n1 n2 N : Nat) : Bool := (((decide (64 < (st.size : Int)) || (!((L st).all Vb.knB))) || ((n1 : Int) != (N : Int))) || ((n2 : Int) != (N : Int)))
/-- An input of a row is wrong. -/
def badIn (ob z : Int) (N2 : Nat) (y : ByteArray) : Bool := ((((decide (z < 0)) || (decide ((N2 : Int) ≤ z))) || ((y.size : Int) != ob)) || (!((L y).all Vb.knB)))
/-- A state's row, as the specification looks at it. -/
def rowS (f : Fsm) (N s : Nat) : Bool := !badHead (f.states.getD s ByteArray.empty) (f.next.getD s []).length (f.outs.getD s []).length N && (List.range N).all (fun i => !badIn f.outBits ((f.next.getD s []).getD i 0) f.states.length ((f.outs.getD s []).getD i ByteArray.empty)) && (List.range s).all (fun t => !((f.states.getD t ByteArray.empty).toList == (f.states.getD s ByteArray.empty).toList))
theorem FW.at {f : Fsm} {N2 N3 N4 c2 c3 c4 b2 o2 b3 o3 b4 o4 : Nat} {w : World} (h : FW w f (.slice (some ⟨b2, o2, none⟩) N2 c2) (.slice (some ⟨b3, o3, none⟩) N3 c3) (.slice (some ⟨b4, o4, none⟩) N4 c4)) (hN2 : f.states.length = N2) (hN3 : f.next.length = N3) (hN4 : f.outs.length = N4) (k6 : N3 = N2) (k7 : N4 = N2) {s : Nat} (hs : s < N2) :
    ∃ st xs ys x1 y1 x2 y2, f.states.getD s ByteArray.empty = st ∧ f.next.getD s [] = xs ∧ f.outs.getD s [] = ys ∧ w.cell? ⟨b2, o2 + s, none⟩ = some (.string st) ∧ st.size ≤ maxLen ∧ w.cell? ⟨b3, o3 + s, none⟩ = some (.slice x1 xs.length y1) ∧ RS 1 RInt w 0 xs (.slice x1 xs.length y1) ∧ w.cell? ⟨b4, o4 + s, none⟩ = some (.slice x2 ys.length y2) ∧ RS 1 RStr w 0 ys (.slice x2 ys.length y2) := by
  have hx2 : f.states[s]? = some f.states[s] := List.getElem?_eq_getElem (by omega)
  have hx3 : f.next[s]? = some f.next[s] := List.getElem?_eq_getElem (by omega)
  have hx4 : f.outs[s]? = some f.outs[s] := List.getElem?_eq_getElem (by omega)
  rcases h.st.open with ⟨hnil, _⟩ | ⟨p2, r2, cc2, ee2, _, _, _, hcs2⟩
  · have e : f.states.length = 0 := by rw [hnil]; rfl
    omega
  rcases h.nx.open with ⟨hnil, _⟩ | ⟨p3, r3, cc3, ee3, _, _, _, hcs3⟩
  · have e : f.next.length = 0 := by rw [hnil]; rfl
    omega
  rcases h.ou.open with ⟨hnil, _⟩ | ⟨p4, r4, cc4, ee4, _, _, _, hcs4⟩
  · have e : f.outs.length = 0 := by rw [hnil]; rfl
    omega
  obtain ⟨rfl, rfl⟩ : b2 = p2 ∧ o2 = r2 := by injection ee2 with e1; injection e1 with e1; injection e1 with e1 e2; exact ⟨e1, e2⟩
  obtain ⟨rfl, rfl⟩ : b3 = p3 ∧ o3 = r3 := by injection ee3 with e1; injection e1 with e1; injection e1 with e1 e2; exact ⟨e1, e2⟩
  obtain ⟨rfl, rfl⟩ : b4 = p4 ∧ o4 = r4 := by injection ee4 with e1; injection e1 with e1; injection e1 with e1 e2; exact ⟨e1, e2⟩
  obtain ⟨u2, _, at2, hu2, hz2⟩ := hcs2 s _ hx2
  obtain ⟨u3, _, at3, v3, hu3, rs3⟩ := hcs3 s _ hx3
  obtain ⟨u4, _, at4, v4, hu4, rs4⟩ := hcs4 s _ hx4
  subst hu2 hu3 hu4
  obtain ⟨x1, y1, ev3⟩ := rs3.slice
  obtain ⟨x2, y2, ev4⟩ := rs4.slice
  subst ev3 ev4
  have m2 := at2.get (j := 0) rfl
  have m3 := at3.get (j := 0) rfl
  have m4 := at4.get (j := 0) rfl
  simp only [Nat.add_zero, Nat.mul_one] at m2 m3 m4
  refine ⟨f.states[s], f.next[s], f.outs[s], x1, y1, x2, y2, ?_, ?_, ?_, m2, hz2, m3, rs3, m4, rs4⟩
  · rw [List.getD_eq_getElem?_getD, hx2]; rfl
  · rw [List.getD_eq_getElem?_getD, hx3]; rfl
  · rw [List.getD_eq_getElem?_getD, hx4]; rfl
theorem wrapI' {ins : Int} (h5 : ins ≤ 5) : IntKind.i64.wrap (2 ^ ins.toNat) = ((cntI ins : Nat) : Int) := by
  have e : (2 : Int) ^ ins.toNat = ((cntI ins : Nat) : Int) := by unfold cntI; push_cast; rfl
  have hs := cntI_small h5
  rw [e]
  generalize cntI ins = N at hs
  have h : ∀ N : Nat, N < 33 → IntKind.i64.wrap ((N : Nat) : Int) = ((N : Nat) : Int) := by decide
  exact h N (by omega)
def hdC : Go.Code → Go.Code
  | .seq a _ => a
  | c => c
def snC : Go.Code → Go.Code
  | .seq _ b => b
  | c => c
def blC : Go.Code → Go.Code
  | .block _ c => c
  | c => c
def loC : Go.Code → Go.Code
  | .loop c => c
  | c => c
/-- The body of the loop over states, and the three regions in it that draw. -/
def atB1 (c : Go.Code) : Go.Code := blC (hdC (snC (loC (blC (snC (hdC (tl 3 c)))))))
def atR7 (c : Go.Code) : Go.Code := hdC (hdC (atB1 c))
def atR12 (c : Go.Code) : Go.Code := hdC (blC (hdC (snC (loC (blC (snC (hdC (snC (atB1 c)))))))))
def atR17 (c : Go.Code) : Go.Code := hdC (blC (hdC (snC (loC (blC (snC (snC (snC (atB1 c)))))))))
set_option maxHeartbeats 32000000 in
theorem reg17 {Q : Exit → Act → World → Prop} (ins ob : Int) (N2 N3 N4 c2 c3 c4 b2 o2 b3 o3 b4 o4 : Nat) (s t : Nat) (st tt : ByteArray) (w W : World) (hbx : Bt 31 w #[.int .i64 ins, .int .i64 ob, .slice (some ⟨b2, o2, none⟩) N2 c2, .slice (some ⟨b3, o3, none⟩) N3 c3, .slice (some ⟨b4, o4, none⟩) N4 c4] W) (hms : W.cell? ⟨b2, o2 + s, none⟩ = some (.string st)) (hmt : W.cell? ⟨b2, o2 + t, none⟩ = some (.string tt)) (j1 : (s : Int) < (N2 : Int)) (jt : (t : Int) < (N2 : Int)) (hs64 : s < 64) (ht64 : t < 64)
    (u2 u5 u7 u8 u9 u10 u11 u12 u13 u14 u15 u16 u17 u18 u19 u20 u21 u22 u23 u24 u25 u26 u27 u28 u29 u30 u31 u32 u33 u34 u35 u36 u37 u38 u39 u40 u41 u42 u43 u44 u45 u46 u47 u48 u49 u50 u51 u52 u53 u54 u55 u56 u57 u58 u59 u60 u61 u62 u63 u64 u65 u66 u67 u68 u69 u70 u71 u72 u73 u74 u75 u76 u77 u78 u79 u80 u81 u82 u83 u84 u85 u86 u87 u88 u89 u90 u91 u92 u93 u94 u95 u96 u97 u98 u99 u100 u101 u102 u103 u104 u105 u106 u107 u108 u109 u110 u111 u112 u113 u114 u115 u116 u117 u118 u119 u120 u121 u122 u123 u124 u125 u126 u127 u128 u129 u130 u131 u132 u133 u134 u135 u136 u137 u138 u139 u140 u141 u142 u143 u144 u145 u146 u147 u148 u149 u150 u151 u152 u153 u154 u155 u156 u157 u158 u159 u160 u161 u162 u163 u164 : Value) (hQ : ∀ (p154 p155 p156 p157 p158 p159 p160 p161 p162 p163 : Value) (V : World), Bt 31 w #[.int .i64 ins, .int .i64 ob, .slice (some ⟨b2, o2, none⟩) N2 c2, .slice (some ⟨b3, o3, none⟩) N3 c3, .slice (some ⟨b4, o4, none⟩) N4 c4] V → Below W.heap.size W V → Q .normal { tmps := #[.agg #[.int .i64 ins, .int .i64 ob, .slice (some ⟨b2, o2, none⟩) N2 c2, .slice (some ⟨b3, o3, none⟩) N3 c3, .slice (some ⟨b4, o4, none⟩) N4 c4], .pointer (some ⟨w.heap.size, 0, none⟩), u2, .int .i64 (N2 : Int), .int .i64 (s : Int), u5, .int .i64 (t : Int), u7, u8, u9, u10, u11, u12, u13, u14, u15, u16, u17, u18, u19, u20, u21, u22, u23, u24, u25, u26, u27, u28, u29, u30, u31, u32, u33, u34, u35, u36, u37, u38, u39, u40, u41, u42, u43, u44, u45, u46, u47, u48, u49, u50, u51, u52, u53, u54, u55, u56, u57, u58, u59, u60, u61, u62, u63, u64, u65, u66, u67, u68, u69, u70, u71, u72, u73, u74, u75, u76, u77, u78, u79, u80, u81, u82, u83, u84, u85, u86, u87, u88, u89, u90, u91, u92, u93, u94, u95, u96, u97, u98, u99, u100, u101, u102, u103, u104, u105, u106, u107, u108, u109, u110, u111, u112, u113, u114, u115, u116, u117, u118, u119, u120, u121, u122, u123, u124, u125, u126, u127, u128, u129, u130, u131, u132, u133, u134, u135, u136, u137, u138, u139, u140, u141, u142, u143, u144, u145, u146, u147, u148, u149, u150, u151, u152, u153, p154, p155, p156, p157, p158, p159, p160, p161, p162, p163, .bool (tt.toList == st.toList)], defers := [] } V) :
    Code.wp Try.prog (atR17 (bodyOf Try.f19)) Q { tmps := #[.agg #[.int .i64 ins, .int .i64 ob, .slice (some ⟨b2, o2, none⟩) N2 c2, .slice (some ⟨b3, o3, none⟩) N3 c3, .slice (some ⟨b4, o4, none⟩) N4 c4], .pointer (some ⟨w.heap.size, 0, none⟩), u2, .int .i64 (N2 : Int), .int .i64 (s : Int), u5, .int .i64 (t : Int), u7, u8, u9, u10, u11, u12, u13, u14, u15, u16, u17, u18, u19, u20, u21, u22, u23, u24, u25, u26, u27, u28, u29, u30, u31, u32, u33, u34, u35, u36, u37, u38, u39, u40, u41, u42, u43, u44, u45, u46, u47, u48, u49, u50, u51, u52, u53, u54, u55, u56, u57, u58, u59, u60, u61, u62, u63, u64, u65, u66, u67, u68, u69, u70, u71, u72, u73, u74, u75, u76, u77, u78, u79, u80, u81, u82, u83, u84, u85, u86, u87, u88, u89, u90, u91, u92, u93, u94, u95, u96, u97, u98, u99, u100, u101, u102, u103, u104, u105, u106, u107, u108, u109, u110, u111, u112, u113, u114, u115, u116, u117, u118, u119, u120, u121, u122, u123, u124, u125, u126, u127, u128, u129, u130, u131, u132, u133, u134, u135, u136, u137, u138, u139, u140, u141, u142, u143, u144, u145, u146, u147, u148, u149, u150, u151, u152, u153, u154, u155, u156, u157, u158, u159, u160, u161, u162, u163, u164], defers := [] } W := by
  have HX := hide hbx
  have HQ : Hid (∀ V, Below W.heap.size W V → V.cell? ⟨w.heap.size, 0, none⟩ = some (.int .i64 ins) ∧ V.cell? ⟨w.heap.size, 1, none⟩ = some (.int .i64 ob) ∧ V.cell? ⟨w.heap.size, 2, none⟩ = some (.slice (some ⟨b2, o2, none⟩) N2 c2) ∧ V.cell? ⟨w.heap.size, 3, none⟩ = some (.slice (some ⟨b3, o3, none⟩) N3 c3) ∧ V.cell? ⟨w.heap.size, 4, none⟩ = some (.slice (some ⟨b4, o4, none⟩) N4 c4)) := hide (fun V h => (hbx.then h).get5)
  have HQQ := hide hQ
  clear hQ hbx
  conv => arg 2; whnf
  refine wp_plan (GF (FS17 w.heap.size N2 c2 b2 o2 s t st tt)) (JB W) (by kernel_rfl) 165 (by kernel_rfl) (by kernel_rfl) ?hj ?hs ?hf
  case hj => exact bdr (brf W)
  case hs =>
    refine ⟨?_, ?_, ?_, ?_, ?_, ?_, ?_, ?_, ?_, ?_, ?_, trivial⟩
    · exact st_val rfl (fun l a V hp ha => ⟨.pointer (some ⟨w.heap.size, 2, none⟩), by
        have x1 := (ev_form a 1).trans (old hp 1 (v := .pointer (some ⟨w.heap.size, 0, none⟩)) (by kernel_rfl) (by kernel_rfl))
        go_simp, rfl⟩)
    · exact st_val rfl (fun l a V hp ha => ⟨.slice (some ⟨b2, o2, none⟩) N2 c2, by
        have x154 := (ev_form a 154).trans (show a.eval (.tmp 154) = .pointer (some ⟨w.heap.size, 2, none⟩) from kn hp ha 154 0 (by kernel_rfl) (by kernel_rfl))
        obtain ⟨q0, q1, q2, q3, q4⟩ := unhide HQ V hp.j
        go_simp, rfl⟩)
    · exact st_val rfl (fun l a V hp ha => ⟨.int .i64 (t : Int), by
        have x6 := (ev_form a 6).trans (old hp 6 (v := .int .i64 (t : Int)) (by kernel_rfl) (by kernel_rfl))
        go_simp, rfl⟩)
    · exact st_val rfl (fun l a V hp ha => ⟨.pointer (some ⟨b2, o2 + t, none⟩), by
        have x155 := (ev_form a 155).trans (show a.eval (.tmp 155) = .slice (some ⟨b2, o2, none⟩) N2 c2 from kn hp ha 155 1 (by kernel_rfl) (by kernel_rfl))
        have x156 := (ev_form a 156).trans (show a.eval (.tmp 156) = .int .i64 (t : Int) from kn hp ha 156 2 (by kernel_rfl) (by kernel_rfl))
        go_simp, rfl⟩)
    · exact st_val rfl (fun l a V hp ha => ⟨.string tt, by
        have x157 := (ev_form a 157).trans (show a.eval (.tmp 157) = .pointer (some ⟨b2, o2 + t, none⟩) from kn hp ha 157 3 (by kernel_rfl) (by kernel_rfl))
        have mt := cell_later hp.j hmt
        go_simp, rfl⟩)
    · exact st_val rfl (fun l a V hp ha => ⟨.pointer (some ⟨w.heap.size, 2, none⟩), by
        have x1 := (ev_form a 1).trans (old hp 1 (v := .pointer (some ⟨w.heap.size, 0, none⟩)) (by kernel_rfl) (by kernel_rfl))
        go_simp, rfl⟩)
    · exact st_val rfl (fun l a V hp ha => ⟨.slice (some ⟨b2, o2, none⟩) N2 c2, by
        have x159 := (ev_form a 159).trans (show a.eval (.tmp 159) = .pointer (some ⟨w.heap.size, 2, none⟩) from kn hp ha 159 5 (by kernel_rfl) (by kernel_rfl))
        obtain ⟨q0, q1, q2, q3, q4⟩ := unhide HQ V hp.j
        go_simp, rfl⟩)
    · exact st_val rfl (fun l a V hp ha => ⟨.int .i64 (s : Int), by
        have x4 := (ev_form a 4).trans (old hp 4 (v := .int .i64 (s : Int)) (by kernel_rfl) (by kernel_rfl))
        go_simp, rfl⟩)
    · exact st_val rfl (fun l a V hp ha => ⟨.pointer (some ⟨b2, o2 + s, none⟩), by
        have x160 := (ev_form a 160).trans (show a.eval (.tmp 160) = .slice (some ⟨b2, o2, none⟩) N2 c2 from kn hp ha 160 6 (by kernel_rfl) (by kernel_rfl))
        have x161 := (ev_form a 161).trans (show a.eval (.tmp 161) = .int .i64 (s : Int) from kn hp ha 161 7 (by kernel_rfl) (by kernel_rfl))
        go_simp, rfl⟩)
    · exact st_val rfl (fun l a V hp ha => ⟨.string st, by
        have x162 := (ev_form a 162).trans (show a.eval (.tmp 162) = .pointer (some ⟨b2, o2 + s, none⟩) from kn hp ha 162 8 (by kernel_rfl) (by kernel_rfl))
        have ms := cell_later hp.j hms
        go_simp, rfl⟩)
    · exact st_val rfl (fun l a V hp ha => ⟨.bool (tt.toList == st.toList), by
        have x158 := (ev_form a 158).trans (show a.eval (.tmp 158) = .string tt from kn hp ha 158 4 (by kernel_rfl) (by kernel_rfl))
        have x163 := (ev_form a 163).trans (show a.eval (.tmp 163) = .string st from kn hp ha 163 9 (by kernel_rfl) (by kernel_rfl))
        go_simp, rfl⟩)
  case hf =>
    intro l a V hp hdone
    have hv := hp.good 10 _ 164 rfl rfl (hdone 10 (by decide))
    have HXV := hide ((unhide HX).then hp.j)
    have HBV := hide hp.j
    obtain ⟨us, rfl, hus⟩ := putAll_of [154, 155, 156, 157, 158, 159, 160, 161, 162, 163, 164] hp.nt hp.df (fun t ht => hp.keep t (dstIn (by kernel_rfl) ht))
    have hu : us 164 = .bool (tt.toList == st.toList) := (hus 164).trans hv
    clear hp hdone hv hus
    simp only [putAll, List.foldl, Act.put, List.setIfInBounds_toArray, List.set_cons_zero, List.set_cons_succ, hu]
    exact unhide HQQ (us 154) (us 155) (us 156) (us 157) (us 158) (us 159) (us 160) (us 161) (us 162) (us 163) V (unhide HXV) (unhide HBV)
end Go.Proofs.Ytjbbjgoofenkpaa
