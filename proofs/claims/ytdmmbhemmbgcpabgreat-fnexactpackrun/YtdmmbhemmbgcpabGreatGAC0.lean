/- The small functions of a mapped design that runs: reg, told, the closures. -/
import Derived.Test.YtdmmbhemmbgcpabGreatGPR2
import Derived.BigQuiet
import Derived.Test.YtdmmbhemmbgcpabGreatGRW4
import Derived.Test.YtdmmbhemmbgcpabGreatGDD
import Derived.Test.YtdmmbhemmbgcpabGreatGMX
import Derived.Test.YtdmmbhemmbgcpabGreatGFB
namespace Go.Proofs.YtdmmbhemmbgcpabGreat
open Go Go.RowKit Gs
set_option linter.unusedVariables false
set_option linter.unusedSimpArgs false
set_option maxRecDepth 100000
/-- The cells of a mapped design that runs. -/
theorem Ob.cells {B b g : Nat} {W : World} {u0 u1 u2 u3 u4 u5 : Value} {vs : List Bool} (h : Ob B W b g [u0, u1, u2, u3, u4, u5] vs) :
    W.cell? ⟨b, 0, none⟩ = some u0 ∧ W.cell? ⟨b, 1, none⟩ = some u1 ∧ W.cell? ⟨b, 2, none⟩ = some u2 ∧ W.cell? ⟨b, 3, none⟩ = some u3 ∧ W.cell? ⟨b, 4, none⟩ = some u4 ∧ W.cell? ⟨b, 5, none⟩ = some u5 ∧ W.cell? ⟨b, 6, none⟩ = some (.slice (some ⟨g, 0, none⟩) vs.length vs.length) := by
  have a := h.at_
  exact ⟨by simpa using a 0 _ rfl, by simpa using a 1 _ rfl, by simpa using a 2 _ rfl, by simpa using a 3 _ rfl, by simpa using a 4 _ rfl, by simpa using a 5 _ rfl, by simpa using a 6 _ rfl⟩
theorem Ob.src {B b g : Nat} {W : World} {u : List Value} {vs : List Bool} (h : Ob B W b g u vs) (z : Int) (h0 : 0 ≤ z) (hz : z < (vs.length : Int)) : ∃ p : Nat, z = (p : Int) ∧ p < vs.length ∧ W.cell? ⟨g, p, none⟩ = some (.int .i64 (b2i (srcV vs z))) := by
  obtain ⟨p, rfl⟩ : ∃ p : Nat, z = (p : Int) := ⟨z.toNat, by omega⟩
  have hp : p < vs.length := by omega
  exact ⟨p, rfl, hp, (h.vals p _ (srcV_at hp)).1⟩
set_option maxHeartbeats 1600000 in
theorem iReg {B b g : Nat} {W : World} {s0 : Option Addr} {l0 c0 : Nat} {u1 u2 u3 u4 u5 : Value} {vs : List Bool} (h : Ob B W b g [.slice s0 l0 c0, u1, u2, u3, u4, u5] vs) (k : Nat) (h0 : l0 ≤ 1048576) (hk : k ≤ 1048576) :
    Calls Tryz.prog 65 #[.pointer (some ⟨b, 0, none⟩), .int .i64 k] W fun e w' => e = .returned (.int .i64 ((l0 + k : Nat) : Int)) ∧ w' = W := by
  obtain ⟨q0, _⟩ := h.cells
  clear h
  go_enter Tryz.func65, Tryz.ntmps65
  go_wp2
  exact bodyPost_ret (v := .int .i64 ((l0 + k : Nat) : Int)) (by simp [results, Tryz.results65, go_sem]) rfl ⟨rfl, rfl⟩
set_option maxHeartbeats 1600000 in
theorem iSmall (y : Bool) (W : World) : Calls Tryz.prog 138 #[.int .i64 (b2i y)] W fun e w' => e = .returned (.string (txt1 y)) ∧ w' = W := by
  cases y
  · show Calls Tryz.prog 138 #[.int .i64 0] W _
    go_enter Tryz.func138, Tryz.ntmps138
    go_wp2
    exact bodyPost_ret (v := .string ⟨#[48]⟩) (by simp [results, Tryz.results138, go_sem]; try rfl) rfl ⟨rfl, rfl⟩
  · show Calls Tryz.prog 138 #[.int .i64 1] W _
    go_enter Tryz.func138, Tryz.ntmps138
    go_wp2
    exact bodyPost_ret (v := .string ⟨#[49]⟩) (by simp [results, Tryz.results138, go_sem]; try rfl) rfl ⟨rfl, rfl⟩
theorem b2i_bd (y : Bool) : 0 ≤ b2i y ∧ b2i y ≤ 1 := by cases y <;> decide
set_option maxHeartbeats 1600000 in
theorem iFormat (y : Bool) (W : World) : Calls Tryz.prog 137 #[.int .i64 (b2i y), .int .i64 10] W fun e w' => e = .returned (.string (txt1 y)) ∧ w' = W := by
  have H := hide (iSmall y W)
  obtain ⟨h0, h1⟩ := b2i_bd y
  generalize b2i y = z at *
  go_enter Tryz.func137, Tryz.ntmps137
  go_wp2_with fail
  refine (unhide H).mono ?_
  rintro e W1 ⟨rfl, h⟩
  subst h
  go_wp2_with fail
  exact bodyPost_ret (v := .string (txt1 y)) (by simp [results, Tryz.results137, go_sem]) rfl ⟨rfl, rfl⟩
set_option maxHeartbeats 1600000 in
theorem iItoa1 (y : Bool) (W : World) : Calls Tryz.prog 136 #[.int .i64 (b2i y)] W fun e w' => e = .returned (.string (txt1 y)) ∧ w' = W := by
  have H := hide (iFormat y W)
  generalize b2i y = z at *
  go_enter Tryz.func136, Tryz.ntmps136
  go_wp2_with fail
  refine (unhide H).mono ?_
  rintro e W1 ⟨rfl, h⟩
  subst h
  go_wp2_with fail
  exact bodyPost_ret (v := .string (txt1 y)) (by simp [results, Tryz.results136, go_sem]) rfl ⟨rfl, rfl⟩
set_option maxHeartbeats 1600000 in
theorem iItoa (y : Bool) (W : World) : Calls Tryz.prog 135 #[.int .i64 (b2i y)] W fun e w' => e = .returned (.string (txt1 y)) ∧ w' = W := by
  have H := hide (iItoa1 y W)
  generalize b2i y = z at *
  go_enter Tryz.func135, Tryz.ntmps135
  go_wp2_with fail
  refine (unhide H).mono ?_
  rintro e W1 ⟨rfl, h⟩
  subst h
  go_wp2_with fail
  exact bodyPost_ret (v := .string (txt1 y)) (by simp [results, Tryz.results135, go_sem]) rfl ⟨rfl, rfl⟩
set_option maxHeartbeats 1600000 in
theorem iTold {B b g : Nat} {W : World} {u0 u1 u2 u3 u4 u5 : Value} {vs : List Bool} (h : Ob B W b g [u0, u1, u2, u3, u4, u5] vs) (z : Int) (h0 : 0 ≤ z) (hz : z < (vs.length : Int)) (hl : vs.length ≤ 1048576 * 8) :
    Calls Tryz.prog 132 #[.pointer (some ⟨b, 0, none⟩), .int .i64 z] W fun e w' => e = .returned (.string (txt1 (srcV vs z))) ∧ w' = W := by
  obtain ⟨p, rfl, hp, hc⟩ := h.src z h0 hz
  obtain ⟨_, _, _, _, _, _, q6⟩ := h.cells
  have H := hide (iItoa (srcV vs (p : Int)) W)
  clear h
  generalize srcV vs (p : Int) = y at *
  generalize b2i y = i at *
  go_enter Tryz.func132, Tryz.ntmps132
  go_wp2_with fail
  refine (unhide H).mono ?_
  rintro e W1 ⟨rfl, h⟩
  subst h
  go_wp2_with fail
  exact bodyPost_ret (v := .string (txt1 y)) (by simp [results, Tryz.results132, go_sem]) rfl ⟨rfl, rfl⟩
set_option maxHeartbeats 1600000 in
theorem iToldPort {B b g p : Nat} {W : World} {u0 u1 u2 u3 u4 u5 : Value} {vs : List Bool} (h : Ob B W b g [u0, u1, u2, u3, u4, u5] vs) (hp : W.cell? ⟨p, 0, none⟩ = some (.pointer (some ⟨b, 0, none⟩))) (nm : ByteArray) (z : Int) (h0 : 0 ≤ z) (hz : z < (vs.length : Int)) (hl : vs.length ≤ 1048576 * 8) :
    Calls Tryz.prog 131 #[.agg #[.string nm, .int .i64 z], .pointer (some ⟨p, 0, none⟩)] W fun e w' => e = .returned (.string (txt1 (srcV vs z))) ∧ Below W.heap.size W w' := by
  have H := hide (iTold (h.later (bal (brf W) (.cells #[.string nm, .int .i64 z] 75))) z h0 hz hl)
  have q := cell_later (bal (brf W) (.cells #[.string nm, .int .i64 z] 75)) hp
  have HB := hide (bal (brf W) (.cells #[.string nm, .int .i64 z] 75))
  clear h
  go_enter Tryz.func131, Tryz.ntmps131
  go_wp2_with fail
  refine (unhide H).mono ?_
  rintro e W1 ⟨rfl, h⟩
  subst h
  go_wp2_with fail
  exact bodyPost_ret (v := .string (txt1 (srcV vs z))) (by simp [results, Tryz.results131, go_sem]) rfl ⟨rfl, unhide HB⟩
set_option maxHeartbeats 1600000 in
theorem iNextOf {B b g p : Nat} {W : World} {u0 u1 u2 u3 u4 u5 : Value} {vs : List Bool} (h : Ob B W b g [u0, u1, u2, u3, u4, u5] vs) (hp : W.cell? ⟨p, 0, none⟩ = some (.pointer (some ⟨b, 0, none⟩))) (nm : ByteArray) (z z2 z3 : Int) (h0 : 0 ≤ z) (hz : z < (vs.length : Int)) (hl : vs.length ≤ 1048576 * 8) :
    Calls Tryz.prog 134 #[.agg #[.string nm, .int .i64 z, .int .i64 z2, .int .i64 z3], .pointer (some ⟨p, 0, none⟩)] W fun e w' => e = .returned (.int .i64 (b2i (srcV vs z))) ∧ Below W.heap.size W w' := by
  have h' := h.later (bal (brf W) (.cells #[.string nm, .int .i64 z, .int .i64 z2, .int .i64 z3] 127))
  obtain ⟨k, rfl, hk, hc⟩ := h'.src z h0 hz
  obtain ⟨_, _, _, _, _, _, q6⟩ := h'.cells
  have q := cell_later (bal (brf W) (.cells #[.string nm, .int .i64 (k : Int), .int .i64 z2, .int .i64 z3] 127)) hp
  have HB := hide (bal (brf W) (.cells #[.string nm, .int .i64 (k : Int), .int .i64 z2, .int .i64 z3] 127))
  clear h h'
  generalize b2i (srcV vs (k : Int)) = i at *
  go_enter Tryz.func134, Tryz.ntmps134
  go_wp2
  go_quiet (fail)
  go_wp2
  exact bodyPost_ret (v := .int .i64 i) (by simp [results, Tryz.results134, go_sem]) rfl ⟨rfl, below_drewN (unhide HB) _⟩
end Go.Proofs.YtdmmbhemmbgcpabGreat
namespace Go.Proofs.YtdmmbhemmbgcpabGreat
open Go Go.RowKit Gs
set_option linter.unusedVariables false
set_option linter.unusedSimpArgs false
set_option maxRecDepth 100000
def FT3 (b g n k : Nat) (y : Bool) : Nat → Value → Prop
  | 0, v => v = .pointer (some ⟨b, 0, none⟩)
  | 1, v => v = .pointer (some ⟨b, 0, none⟩)
  | 2, v => v = .pointer (some ⟨b, 6, none⟩)
  | 3, v => v = .slice (some ⟨g, 0, none⟩) n n
  | 4, v => v = .int .i64 (k : Int)
  | 5, v => v = .string (txt1 y)
  | 6, v => v = .int .u8 (48 + b2i y)
  | 7, v => v = .int .u8 (b2i y)
  | 8, v => v = .int .i64 (b2i y)
  | 9, v => v = .pointer (some ⟨g, k, none⟩)
  | 10, v => True
  | _, _ => True
set_option maxHeartbeats 3200000 in
theorem iTake {B b g : Nat} {W0 W : World} {p0 p1 p2 p3 p4 p5 : Value} {r : List Bool} (h : Ob B W b g [p0, p1, p2, p3, p4, p5] r) (ins : List ByteArray) (v : Value) (hr : RS 1 RStr W0 0 ins v) (hB : Below B W0 W) (hBe : B = W0.heap.size) (hl : r.length ≤ 1048576 * 4) (hn : ins.length ≤ r.length) (hbt : ∀ x ∈ ins, x = txt1 (bit1 x)) :
    Calls Tryz.prog 129 #[.pointer (some ⟨b, 0, none⟩), v] W fun e w' => e = .returned (.tuple #[]) ∧ Ob B w' b g [p0, p1, p2, p3, p4, p5] (ins.map bit1 ++ r.drop ins.length) ∧ Fx g W w' := by
  subst hBe
  obtain ⟨a, c, rfl⟩ := hr.slice
  have HCS : Hid (∀ (i : Nat) x, ins[i]? = some x → ∃ b o, a = some ⟨b, o, none⟩ ∧ W0.cell? ⟨b, o + i, none⟩ = some (.string x)) := hide (by
    intro i x hx
    rcases hr.open with ⟨rfl, _⟩ | ⟨b, o, c', hv, _, _, _, he⟩
    · simp at hx
    · injection hv with e1 e2 e3
      obtain ⟨u, hu, hat, hux, hs⟩ := he i x hx
      subst hux
      exact ⟨b, o, e1, by simpa using hat.get (j := 0) rfl⟩)
  have HBT := hide hbt
  have HB := hide hB
  have HH := hide h
  clear hr hbt hB h
  go_enter Tryz.func129, Tryz.ntmps129
  go_wp2
  go_loopw [8] (fun i wr => ∃ k : Nat, k ≤ ins.length ∧ i = .int .i64 k ∧ Ob W0.heap.size wr b g [p0, p1, p2, p3, p4, p5] ((ins.take k).map bit1 ++ r.drop k) ∧ Fx g W wr) (fun i wr => ins.length - (intOf i).toNat)
  case atStart => exact ⟨0, Nat.zero_le _, rfl, by simpa using unhide HH, Fx.refl _ _⟩
  case round =>
    obtain ⟨k, hk, rfl, ho, hf⟩ := hrel
    by_cases hlt : k < ins.length
    · have hx : ins[k]? = some ins[k] := List.getElem?_eq_getElem hlt
      have hmem := List.getElem_mem hlt
      generalize ins[k] = x at hx hmem
      obtain ⟨bb, oo, rfl, hc⟩ := unhide HCS k x hx
      have hxt := unhide HBT x hmem
      have hbw : Below W0.heap.size W0 wr := hf.below (unhide HB) (unhide HH).hg (by have := (unhide HB).size; omega)
      have k0 := cell_later hbw hc
      obtain ⟨_, _, _, _, _, _, q6⟩ := ho.cells
      have hlen : ((ins.take k).map bit1 ++ r.drop k).length = r.length := by simp; omega
      rw [hlen] at q6
      have H6 := hide q6
      have HST : Hid (((ins.take k).map bit1 ++ r.drop k).set k (bit1 x) = (ins.take (k + 1)).map bit1 ++ r.drop (k + 1)) := hide (by
        rw [List.take_add_one, hx, List.map_append, Option.toList_some]
        have hl2 : ((ins.take k).map bit1).length = k := by rw [List.length_map, List.length_take]; omega
        rw [List.set_append_right _ _ (by omega), hl2, Nat.sub_self, List.drop_eq_getElem_cons (by omega : k < r.length), List.set_cons_zero, List.append_assoc]
        rfl)
      have HY : Hid (∃ y, wr.cell? ⟨g, k, none⟩ = some (.int .i64 (b2i y)) ∧ wr.frozen? ⟨g, k, none⟩ = false) := hide (by
        have hl3 : k < ((ins.take k).map bit1 ++ r.drop k).length := by rw [hlen]; omega
        exact ⟨_, ho.vals k _ (List.getElem?_eq_getElem hl3)⟩)
      have HO := hide ho
      have HF := hide hf
      have i1 : (k : Int) < (r.length : Int) := by omega
      have i0 : (0 : Int) ≤ (k : Int) := by omega
      have i2 : (k : Int) < (ins.length : Int) := by omega
      rw [hxt] at k0
      generalize bit1 x = y at *
      clear ho hf hbw hc HCS hx hlen hxt hmem q6
      generalize hn' : r.length = n at *
      have HN := hide hn'
      clear hn'
      go_wp2_with fail
      clear k0
      refine wp_plan (GF (FT3 b g n k y)) (JE wr 10 (fun V => ∃ V0, Below wr.heap.size wr V0 ∧ V = V0.setCell ⟨g, k, none⟩ (.int .i64 (b2i y)))) (by kernel_rfl) 24 (by kernel_rfl) (by kernel_rfl) ?hj ?hs ?hf
      case hj => exact JE.start (bdr (brf wr))
      case hs =>
        refine ⟨?_, ?_, ?_, ?_, ?_, ?_, ?_, ?_, ?_, ?_, ?_, trivial⟩
        · exact se_val (by decide) (by kernel_rfl) rfl (fun l a V hp hB ha => ⟨.pointer (some ⟨b, 0, none⟩), by
            have x0 := (ev_form a 0).trans (old hp 0 (v := .pointer (some ⟨b, 0, none⟩)) (by kernel_rfl) (by kernel_rfl))
            go_simp, rfl⟩)
        · exact se_val (by decide) (by kernel_rfl) rfl (fun l a V hp hB ha => ⟨.pointer (some ⟨b, 0, none⟩), by
            have x13 := (ev_form a 13).trans (show a.eval (.tmp 13) = .pointer (some ⟨b, 0, none⟩) from kn hp ha 13 0 (by kernel_rfl) (by kernel_rfl))
            go_simp, rfl⟩)
        · exact se_val (by decide) (by kernel_rfl) rfl (fun l a V hp hB ha => ⟨.pointer (some ⟨b, 6, none⟩), by
            have x14 := (ev_form a 14).trans (show a.eval (.tmp 14) = .pointer (some ⟨b, 0, none⟩) from kn hp ha 14 1 (by kernel_rfl) (by kernel_rfl))
            go_simp, rfl⟩)
        · exact se_val (by decide) (by kernel_rfl) rfl (fun l a V hp hB ha => ⟨.slice (some ⟨g, 0, none⟩) n n, by
            have x15 := (ev_form a 15).trans (show a.eval (.tmp 15) = .pointer (some ⟨b, 6, none⟩) from kn hp ha 15 2 (by kernel_rfl) (by kernel_rfl))
            have m6 := cell_later hB (unhide H6)
            go_simp, rfl⟩)
        · exact se_val (by decide) (by kernel_rfl) rfl (fun l a V hp hB ha => ⟨.int .i64 (k : Int), by
            have x4 := (ev_form a 4).trans (old hp 4 (v := .int .i64 (k : Int)) (by kernel_rfl) (by kernel_rfl))
            go_simp, rfl⟩)
        · exact se_val (by decide) (by kernel_rfl) rfl (fun l a V hp hB ha => ⟨.string (txt1 y), by
            have x5 := (ev_form a 5).trans (old hp 5 (v := .string (txt1 y)) (by kernel_rfl) (by kernel_rfl))
            go_simp, rfl⟩)
        · refine se_val (by decide) (by kernel_rfl) rfl (fun l a V hp hB ha => ?_)
          have kk := kn hp ha 18 5 (by kernel_rfl) (by kernel_rfl)
          cases y with
          | false =>
            have x18 := (ev_form a 18).trans (show a.eval (.tmp 18) = .string ⟨#[48]⟩ from kk)
            exact ⟨.int .u8 48, by (go_simp; first | done | rfl | decide), rfl⟩
          | true =>
            have x18 := (ev_form a 18).trans (show a.eval (.tmp 18) = .string ⟨#[49]⟩ from kk)
            exact ⟨.int .u8 49, by (go_simp; first | done | rfl | decide), rfl⟩
        · refine se_val (by decide) (by kernel_rfl) rfl (fun l a V hp hB ha => ?_)
          have kk := kn hp ha 19 6 (by kernel_rfl) (by kernel_rfl)
          cases y with
          | false =>
            have x19 := (ev_form a 19).trans (show a.eval (.tmp 19) = .int .u8 48 from kk)
            exact ⟨.int .u8 0, by (go_simp; first | done | rfl | decide), rfl⟩
          | true =>
            have x19 := (ev_form a 19).trans (show a.eval (.tmp 19) = .int .u8 49 from kk)
            exact ⟨.int .u8 1, by (go_simp; first | done | rfl | decide), rfl⟩
        · refine se_val (by decide) (by kernel_rfl) rfl (fun l a V hp hB ha => ?_)
          have kk := kn hp ha 20 7 (by kernel_rfl) (by kernel_rfl)
          cases y with
          | false =>
            have x20 := (ev_form a 20).trans (show a.eval (.tmp 20) = .int .u8 0 from kk)
            exact ⟨.int .i64 0, by (go_simp; first | done | rfl | decide), rfl⟩
          | true =>
            have x20 := (ev_form a 20).trans (show a.eval (.tmp 20) = .int .u8 1 from kk)
            exact ⟨.int .i64 1, by (go_simp; first | done | rfl | decide), rfl⟩
        · exact se_val (by decide) (by kernel_rfl) rfl (fun l a V hp hB ha => ⟨.pointer (some ⟨g, k, none⟩), by
            have x16 := (ev_form a 16).trans (show a.eval (.tmp 16) = .slice (some ⟨g, 0, none⟩) n n from kn hp ha 16 3 (by kernel_rfl) (by kernel_rfl))
            have x17 := (ev_form a 17).trans (show a.eval (.tmp 17) = .int .i64 (k : Int) from kn hp ha 17 4 (by kernel_rfl) (by kernel_rfl))
            go_simp, rfl⟩)
        · refine se_last rfl (fun l a V hp hB ha => ?_) trivial
          have x22 := (ev_form a 22).trans (show a.eval (.tmp 22) = .pointer (some ⟨g, k, none⟩) from kn hp ha 22 9 (by kernel_rfl) (by kernel_rfl))
          have x21 := (ev_form a 21).trans (show a.eval (.tmp 21) = .int .i64 (b2i y) from kn hp ha 21 8 (by kernel_rfl) (by kernel_rfl))
          obtain ⟨y', hy, hfz⟩ := unhide HY
          have m1 := cell_later hB hy
          have m2 := frozen_later hB hy hfz
          exact ⟨V.setCell ⟨g, k, none⟩ (.int .i64 (b2i y)), by go_simp, ⟨V, hB, rfl⟩⟩
      case hf =>
        intro l a V hp hall
        obtain ⟨V0, hV0, hV⟩ := hp.j.2 (hall 10 (by decide))
        obtain ⟨us, rfl, hus⟩ := putAll_of [13, 14, 15, 16, 17, 18, 19, 20, 21, 22] hp.nt hp.df (fun t ht => hp.keep t (dstIn (by kernel_rfl) ht))
        clear hp hall hus
        simp only [putAll, List.foldl, Act.put, List.setIfInBounds_toArray, List.set_cons_zero, List.set_cons_succ]
        generalize us 13 = y13 at *
        generalize us 14 = y14 at *
        generalize us 15 = y15 at *
        generalize us 16 = y16 at *
        generalize us 17 = y17 at *
        generalize us 18 = y18 at *
        generalize us 19 = y19 at *
        generalize us 20 = y20 at *
        generalize us 21 = y21 at *
        generalize us 22 = y22 at *
        have HO2 := hide (((unhide HO).later hV0).set k y)
        have HF2 := hide (((unhide HF).trans (Fx.of (g := g) hV0)).trans (Fx.set g k V0 (.int .i64 (b2i y))))
        rw [unhide HST, ← hV] at HO2
        rw [← hV] at HF2
        clear hV hV0
        go_wp2_with fail
        go_roundw
        case rel => exact ⟨k + 1, by omega, by go_num, unhide HO2, unhide HF2⟩
        case measure => simp [intOf]; omega
    · obtain rfl : k = ins.length := by omega
      rw [List.take_of_length_le (Nat.le_refl _)] at ho
      have HO := hide ho
      have HF := hide hf
      clear ho hf HCS
      go_wp2
      exact bodyPost_end (v := .tuple #[]) (by simp [results, Tryz.results129, go_sem]) rfl ⟨rfl, unhide HO, unhide HF⟩
end Go.Proofs.YtdmmbhemmbgcpabGreat
namespace Go.Proofs.YtdmmbhemmbgcpabGreat
open Go Go.RowKit Gs
set_option linter.unusedVariables false
set_option maxRecDepth 100000
theorem lut_cells {xs : List Lut} {s : Option Addr} {l c : Nat} {w : World} (h : RS 2 RLut w 0 xs (.slice s l c)) : ∀ (i : Nat) x, xs[i]? = some x → ∃ b o a n, s = some ⟨b, o, none⟩ ∧ w.cell? ⟨b, o + i * 2, none⟩ = some (.slice a x.inp.length n) ∧ w.cell? ⟨b, o + i * 2 + 1, none⟩ = some (.int .i64 x.table) ∧ ∀ (j : Nat) y, x.inp[j]? = some y → ∃ b' o', a = some ⟨b', o', none⟩ ∧ w.cell? ⟨b', o' + j, none⟩ = some (.int .i64 y) := by
  intro i x hx
  rcases h.open with ⟨rfl, _⟩ | ⟨b, o, c', hv, _, _, _, he⟩
  · simp at hx
  · injection hv with e1 e2 e3
    obtain ⟨u, hu, hat, v0, hux, hrs⟩ := he i x hx
    subst hux
    obtain ⟨a, n, rfl⟩ := hrs.slice
    refine ⟨b, o, a, n, e1, by simpa using hat.get (j := 0) rfl, by simpa using hat.get (j := 1) rfl, fun j y hj => ?_⟩
    rcases hrs.open with ⟨e, _⟩ | ⟨b', o', c'', hv', _, _, _, he'⟩
    · rw [e] at hj; simp at hj
    · injection hv' with g1 g2 g3
      obtain ⟨u', hu', hat', hux'⟩ := he' j y hj
      subst hux'
      exact ⟨b', o', g1, by simpa using hat'.get (j := 0) rfl⟩
end Go.Proofs.YtdmmbhemmbgcpabGreat
namespace Go.Proofs.YtdmmbhemmbgcpabGreat
open Go Go.RowKit Gs
set_option linter.unusedVariables false
set_option linter.unusedSimpArgs false
set_option maxRecDepth 100000
set_option maxHeartbeats 1600000 in
theorem iFirst (a0 a2 : Option Addr) (n0 n2 c0 c2 : Nat) (v1 v3 v4 v5 : Value) (w : World) (h0 : n0 ≤ 1048576) (h2 : n2 ≤ 1048576) :
    Calls Tryz.prog 64 #[.agg #[.slice a0 n0 c0, v1, .slice a2 n2 c2, v3, v4, v5]] w fun e w' => e = .returned (.int .i64 ((n0 + n2 : Nat) : Int)) ∧ Below w.heap.size w w' := by
  obtain ⟨N, e1⟩ : ∃ N : Nat, n0 + n2 = N := ⟨_, rfl⟩
  rw [e1]
  have q : (n0 : Int) + (n2 : Int) = (N : Int) := by omega
  clear e1
  go_enter Tryz.func64, Tryz.ntmps64
  go_wp2
  exact bodyPost_ret (v := .int .i64 (N : Int)) (by simp [results, Tryz.results64, go_sem]) rfl ⟨rfl, bal (brf w) _⟩
end Go.Proofs.YtdmmbhemmbgcpabGreat
